/- Bytes that are no state are refused. No condition. -/
import Derived.Test.YtnikhnpigopihaaDoorOpen
import Derived.Test.YtnikhnpigopihaaDoorMeth
namespace Go.Proofs.YtnikhnpigopihaaDoor
open Go.RowKit
set_option linter.unusedVariables false
set_option linter.unusedSimpArgs false
/-- a state of kind k, after n bytes -/
def IsSt (L : List Nat) (k n : Nat) : Prop := IsKind k ∧ L.getD 0 0 = k ∧ be ((L.drop 1).take 8) = n ∧ n ≤ 2305843009213693951 ∧ L.length = 9 + 8 * wB k + n % (2 * wW k)
/-- a refusal -/
def NoIs (w : World) (e : Ending) (w' : World) : Prop := e = .returned (.tuple #[.pointer none, .int .i64 23]) ∧ Below w.heap.size w w'
theorem open_short (a : Option Addr) (m c : Nat) (w : World) (hm : m < 9) : Calls Tryd.prog 24 #[.slice a m c] w (NoIs w) := by
  have h : decide ((m : Int) < 9) = true := by simp; omega
  go_enter Tryd.func24, Tryd.ntmps24
  go_wp2_with fail
  go_ret2
  exact ⟨rfl, Below.refl _ _⟩
theorem be_lt8 {L : List Nat} (hL : ∀ x ∈ L, x < 256) : be ((L.drop 1).take 8) < 2 ^ 64 := by
  have h := be_lt ((L.drop 1).take 8) (fun x hx => hL x (List.mem_of_mem_drop (List.mem_of_mem_take hx)))
  have h2 : 256 ^ ((L.drop 1).take 8).length ≤ 256 ^ 8 := Nat.pow_le_pow_right (by decide) (by simp; omega)
  have h3 : (256 : Nat) ^ 8 = 2 ^ 64 := by decide
  omega
set_option maxHeartbeats 1600000 in
theorem open_no (b off m c : Nat) (L : List Nat) (w : World) (hb : BIn w (some ⟨b, off, none⟩) m c L) (hm9 : 9 ≤ m) (hno : ∀ k n, ¬ IsSt L k n) :
    Calls Tryd.prog 24 #[.slice (some ⟨b, off, none⟩) m c] w (NoIs w) := by
  obtain ⟨k, hL0⟩ : ∃ k, L.getD 0 0 = k := ⟨_, rfl⟩
  obtain ⟨n, hLn⟩ : ∃ n, be ((L.drop 1).take 8) = n := ⟨_, rfl⟩
  have hk256 : k < 256 := by rw [← hL0]; exact getD_lt hb.1.2.2.1 0
  have hn64 : n < 2 ^ 64 := by rw [← hLn]; exact be_lt8 hb.1.2.2.1
  have HNO := Lib.hid (show IsKind k → n ≤ 2305843009213693951 → m ≠ 9 + 8 * wB k + n % (2 * wW k) from fun h1 h2 h3 => hno k n ⟨h1, hL0, hLn, h2, by rw [hb.1.1]; exact h3⟩)
  clear hno
  have hc1 := hb.2.1
  have hc2 := hb.2.2.1
  have hm47 := hb.2.2.2.1
  unfold maxLen at hc2
  obtain ⟨b', o', he, hcell⟩ := hb.1.2.2.2.resolve_left (by omega)
  injection he with he
  injection he with e1 e2
  subst e1 e2
  have hc0 := hcell 0 (by omega)
  rw [hL0, Nat.add_zero] at hc0
  have hdb := (Below.refl w.heap.size w).drew
  have hnum := number_any b (off + 1) (m - 1) (c - 1) (L.drop 1) 8 w.drew ((bin_tail (f := 1) hb (by omega)).below hdb) (by omega) (by omega)
  rw [hLn] at hnum
  have HNUM := Lib.hid (flipC hnum)
  have HBD := Lib.hid (built72b k n)
  clear hnum hcell hL0 hLn
  have h0m : 0 < m := by omega
  have h1m : (1 : Int) ≤ (m : Int) := by omega
  have h1c : 1 ≤ c := by omega
  have hc1n : ¬ c = 1 := by omega
  have hm9I : (9 : Int) ≤ (m : Int) := by omega
  have hm9b : decide ((m : Int) < 9) = false := by simp; omega
  go_enter Tryd.func24, Tryd.ntmps24
  go_wp2_with fail
  refine wp_region_still_tail 7 (by kernel_rfl) (by kernel_rfl) ?_
  change wpStill _ _ w.drew _ _ _
  simp only [List.take_succ_cons, List.take_zero, List.drop_succ_cons, List.drop_zero]
  still_step
  still_step
  still_step
  still_step
  still_step
  still_call HNUM.out
  refine wpStill_build rfl 72 _ rfl (hashV k n (zeros 8) (zeros 128)).toArray ?hb ?_
  case hb => simp only [List.map_toArray, List.map_cons, List.map_nil]; exact HBD.out
  refine wpStill_nil ?_
  change wpList _ _ _ _ _ w.drew
  obtain ⟨W1, hW1⟩ : ∃ W1 : World, (w.alloc (.cells (hashV k n (zeros 8) (zeros 128)).toArray 72)).drew = W1 := ⟨_, rfl⟩
  have blk : Blk W1 w.heap.size 72 (hashV k n (zeros 8) (zeros 128)) := by rw [← hW1]; exact Blk.new w 72 _
  have hbel : Below w.heap.size w W1 := by rw [← hW1]; exact ((Below.refl _ w).alloc (Nat.le_refl _) _).drew
  go_upto_region 4 with (fail)
  have hkc := hash_kind blk
  have htc := hash_taken blk
  have BLK := Lib.hid blk
  clear hW1 blk
  by_cases hk1 : k < 1
  · have q1 : decide ((k : Int) < 1) = true := by simp; omega
    go_wp2_with fail
    go_ret2
    exact ⟨rfl, hbel⟩
  · have q1 : decide ((k : Int) < 1) = false := by simp; omega
    by_cases hk3 : 3 < k
    · have q2 : decide ((3 : Int) < (k : Int)) = true := by simp; omega
      go_wp2_with fail
      go_ret2
      exact ⟨rfl, hbel⟩
    · have q2 : decide ((3 : Int) < (k : Int)) = false := by simp; omega
      by_cases hn : 2305843009213693951 < n
      · have q3 : decide ((2305843009213693951 : Int) < (n : Int)) = true := by simp; omega
        go_wp2_with fail
        go_ret2
        exact ⟨rfl, hbel⟩
      · have q3 : decide ((2305843009213693951 : Int) < (n : Int)) = false := by simp; omega
        have hk : IsKind k := by unfold IsKind; omega
        have HWS := Lib.hid (fun w => wordSize_any k hk w)
        have hHD := held_any w.heap.size k n (zeros 8) (zeros 128) hk (by omega) W1 BLK.out
        have hW : 16 * wB k = 2 * wW k := by unfold wW wB; split <;> rfl
        rw [hW] at hHD
        have hhd : n % (2 * wW k) < 128 := by
          have h : n % (2 * wW k) < 2 * wW k := Nat.mod_lt _ (by unfold wW; split <;> omega)
          have h2 : 2 * wW k ≤ 128 := by unfold wW; split <;> omega
          omega
        have hwb : wB k ≤ 8 ∧ 4 ≤ wB k := by unfold wB; split <;> omega
        have hne := HNO.out hk (by omega)
        have HHD := Lib.hid hHD
        clear hHD hW HNO
        obtain ⟨wb, hwbe⟩ : ∃ wb, wB k = wb := ⟨_, rfl⟩
        obtain ⟨hd, hhde⟩ : ∃ hd, n % (2 * wW k) = hd := ⟨_, rfl⟩
        rw [hwbe] at HWS hwb hne
        rw [hhde] at HHD hhd hne
        clear hwbe hhde
        have hne1 : ((m : Int) != 9 + 8 * (wb : Int) + (hd : Int)) = true := by rw [bne_iff_ne]; omega
        clear hne
        go_wp2_with fail
        refine (HWS.out _).mono ?_
        rintro e w' ⟨rfl, rfl⟩
        go_wp2_with fail
        refine HHD.out.mono ?_
        rintro e w' ⟨rfl, q, rfl⟩
        have hbel2 := below_drewN hbel q
        go_wp2_with fail
        go_ret2
        exact ⟨rfl, hbel2⟩
end Go.Proofs.YtnikhnpigopihaaDoor
