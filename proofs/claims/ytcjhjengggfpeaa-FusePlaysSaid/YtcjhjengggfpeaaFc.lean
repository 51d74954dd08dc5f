/- The fuses' small methods. No condition. -/
import Derived.Test.YtcjhjengggfpeaaFb
import Derived.Deep.Cut
import Derived.Deep.QuietTactic
namespace Go.Proofs.Ytcjhjengggfpeaa
open Go.RowKit
set_option linter.unusedVariables false
set_option maxRecDepth 100000
set_option linter.unusedSimpArgs false
theorem closed_nil (i n m : Int) (w : World) : Calls Try.prog 18 #[.pointer none, .int .i64 i, .int .i64 n, .int .i64 m] w fun e w' => e = .returned (.int .i64 1) ∧ w = w' := by
  go_enter Try.func18, Try.ntmps18
  go_wp2
  go_ret
  exact ⟨rfl, rfl⟩
/-- why so many can't be reached -/
def clE (i n m : Int) : Int := if 0 ≤ i ∧ 0 ≤ n ∧ n ≤ m - i then 0 else 153
set_option maxHeartbeats 400000 in
theorem closed_any (g : Nat) (i n m : Int) (w : World) (hi : I64 i) (hn : I64 n) (hm : 0 ≤ m ∧ m ≤ 64) :
    Calls Try.prog 18 #[.pointer (some ⟨g, 0, none⟩), .int .i64 i, .int .i64 n, .int .i64 m] w fun e w' => e = .returned (.int .i64 (clE i n m)) ∧ w = w' := by
  by_cases h1 : i < 0
  · have e0 : clE i n m = 153 := by unfold clE; rw [if_neg (by omega)]
    have t1 : decide (i < 0) = true := by simpa using h1
    rw [e0]
    clear e0 h1
    go_enter Try.func18, Try.ntmps18
    go_wp2
    go_ret
    exact ⟨rfl, rfl⟩
  by_cases h2 : n < 0
  · have e0 : clE i n m = 153 := by unfold clE; rw [if_neg (by omega)]
    have t1 : decide (i < 0) = false := by simpa using h1
    have t2 : decide (n < 0) = true := by simpa using h2
    rw [e0]
    clear e0 h1 h2
    go_enter Try.func18, Try.ntmps18
    go_wp2
    go_ret
    exact ⟨rfl, rfl⟩
  have hw : wrap64 (m - i) = m - i := by unfold wrap64; unfold I64 at *; omega
  by_cases h3 : m - i < n
  · have e0 : clE i n m = 153 := by unfold clE; rw [if_neg (by omega)]
    have t1 : decide (i < 0) = false := by simpa using h1
    have t2 : decide (n < 0) = false := by simpa using h2
    have t3 : decide (wrap64 (m - i) < n) = true := by rw [hw]; simpa using h3
    rw [e0]
    clear e0 h1 h2 h3 hw
    go_enter Try.func18, Try.ntmps18
    go_wp2
    go_ret
    exact ⟨rfl, rfl⟩
  · have e0 : clE i n m = 0 := by unfold clE; rw [if_pos (by omega)]
    have t1 : decide (i < 0) = false := by simpa using h1
    have t2 : decide (n < 0) = false := by simpa using h2
    have t3 : decide (wrap64 (m - i) < n) = false := by rw [hw]; simpa using h3
    rw [e0]
    clear e0 h1 h2 h3 hw
    go_enter Try.func18, Try.ntmps18
    go_wp2
    go_ret
    exact ⟨rfl, rfl⟩
theorem zeroF (w : World) : (zeroValue 55).run Try.prog w = .ok (.agg (fuV l0 c0).toArray) w := by kernel_rfl
theorem new_any (w : World) : Calls Try.prog 6 #[] w fun e w' => e = .returned (.pointer (some ⟨w.heap.size, 0, none⟩)) ∧ FuAt w' w.heap.size l0 c0 ∧ Below w.heap.size w w' := by
  go_enter Try.func6, Try.ntmps6
  go_wp2
  rw [zeroF]
  go_wp2
  go_ret
  exact ⟨rfl, Blk.new w _ _, (Below.refl _ _).alloc (Nat.le_refl _) _⟩
theorem clE_bad {i m : Int} (h : ¬ (0 ≤ i ∧ i < m)) : clE i 1 m = 153 := by unfold clE; rw [if_neg (by omega)]
theorem clE_in {n m : Nat} (h : n < m) : clE n 1 m = 0 := by unfold clE; rw [if_pos (by omega)]
/-- the burning's answer, and the bytes behind it -/
def burnE (l : List (Nat × Bool)) (i : Int) : Int := if 0 ≤ i ∧ i < 64 then (if (l.getD i.toNat (0, false)).2 = true then 151 else 0) else 153
def burnL (l : List (Nat × Bool)) (i : Int) (v : Nat) : List (Nat × Bool) := if 0 ≤ i ∧ i < 64 then (if (l.getD i.toNat (0, false)).2 = true then l else l.set i.toNat (v, true)) else l
/-- the fuses turn, nothing else -/
def FuDone (g : Nat) (v : Value) (l : List (Nat × Bool)) (c : List Nat) (w : World) (e : Ending) (w' : World) : Prop := e = .returned v ∧ FuAt w' g l c ∧ w.grownBy w' (some g)
def RuDone (g : Nat) (v : Value) (l : List (Nat × Bool)) (c : List Nat) (w : World) (e : Ending) (w' : World) : Prop := e = .returned v ∧ RuAt w' g l c ∧ w.grownBy w' (some g)
set_option maxHeartbeats 1600000 in
theorem burn_any (g : Nat) (l : List (Nat × Bool)) (c : List Nat) (i : Int) (v : Nat) (w : World) (h : FuAt w g l c) (k : FuOk l c) (hi : I64 i) :
    Calls Try.prog 9 #[.pointer (some ⟨g, 0, none⟩), .int .i64 i, .int .u8 (v : Nat)] w (FuDone g (.int .i64 (burnE l i)) (burnL l i v) c w) := by
  have HC := Lib.hid (closed_any g i 1 64 w hi (by unfold I64; omega) (by omega))
  by_cases hr : 0 ≤ i ∧ i < 64
  · obtain ⟨n, rfl⟩ : ∃ n : Nat, i = n := ⟨i.toNat, by omega⟩
    have hn : n < 64 := by omega
    rw [show (64 : Int) = (64 : Nat) from rfl, clE_in hn] at HC
    have hb := h.b k n hn
    by_cases hu : (l.getD n (0, false)).2 = true
    · have e1 : burnE l n = 151 := by unfold burnE; rw [if_pos hr, if_pos (by simpa using hu)]
      have e2 : burnL l n v = l := by unfold burnL; rw [if_pos hr, if_pos (by simpa using hu)]
      rw [e1, e2]
      rw [hu] at hb
      have HH := Lib.hid h
      clear e1 e2 hu hr h k hi
      go_enter Try.func9, Try.ntmps9
      go_wp2_with (go_at_call 18; refine HC.out.mono ?_; rintro e w' ⟨rfl, rfl⟩)
      go_ret
      exact ⟨rfl, HH.out, grown_refl _ _⟩
    · rw [Bool.not_eq_true] at hu
      have e1 : burnE l n = 0 := by unfold burnE; rw [if_pos hr, if_neg (by simpa using hu)]
      have e2 : burnL l n v = l.set n (v, true) := by unfold burnL; rw [if_pos hr, if_neg (by simpa using hu)]; rfl
      rw [e1, e2]
      rw [hu] at hb
      have HH := Lib.hid h
      have hv := h.v k n hn
      have f1 := Blk.free h (n * 2)
      have hs := Blk.set h (n * 2) (.int .u8 (v : Nat))
      have f2 := Blk.free hs (n * 2 + 1)
      have hb2 : (w.setCell ⟨g, n * 2, none⟩ (.int .u8 (v : Nat))).cell? ⟨g, n * 2 + 1, none⟩ = some (.bool false) := by
        rw [Blk.cell hs, List.getElem?_set_ne (by omega), ← Blk.cell h]; exact hb
      have HP := Lib.hid (h.put k n hn v true)
      have HG := Lib.hid (grown_trans (grown_setCell w ⟨g, n * 2, none⟩ (.int .u8 (v : Nat))) (grown_setCell _ ⟨g, n * 2 + 1, none⟩ (.bool true)))
      clear e1 e2 hu hr h k hi hs HH
      go_enter Try.func9, Try.ntmps9
      go_wp2_with (go_at_call 18; refine HC.out.mono ?_; rintro e w' ⟨rfl, rfl⟩)
      go_ret
      exact ⟨rfl, HP.out, HG.out⟩
  · have e1 : burnE l i = 153 := by unfold burnE; rw [if_neg hr]
    have e2 : burnL l i v = l := by unfold burnL; rw [if_neg hr]
    rw [e1, e2]
    rw [clE_bad hr] at HC
    have HH := Lib.hid h
    clear e1 e2 hr h k hi
    go_enter Try.func9, Try.ntmps9
    go_wp2_with (go_at_call 18; refine HC.out.mono ?_; rintro e w' ⟨rfl, rfl⟩)
    go_ret
    exact ⟨rfl, HH.out, grown_refl _ _⟩
theorem burn_nil (i : Int) (v : Value) (w : World) : Calls Try.prog 9 #[.pointer none, .int .i64 i, v] w fun e w' => e = .returned (.int .i64 1) ∧ w = w' := by
  go_enter Try.func9, Try.ntmps9
  go_wp2_with (go_at_call 18; refine (closed_nil _ _ _ _).mono ?_; rintro e w' ⟨rfl, rfl⟩)
  go_ret
  exact ⟨rfl, rfl⟩
/-- a byte, as Read answers it -/
def rdV (l : List (Nat × Bool)) (i : Int) : Value := if 0 ≤ i ∧ i < 64 then .tuple #[.int .u8 ((l.getD i.toNat (0, false)).1 : Nat), .bool (l.getD i.toNat (0, false)).2, .int .i64 0] else .tuple #[.int .u8 0, .bool false, .int .i64 153]
set_option maxHeartbeats 1600000 in
theorem read_any (g : Nat) (l : List (Nat × Bool)) (c : List Nat) (i : Int) (w : World) (h : FuAt w g l c) (k : FuOk l c) (hi : I64 i) :
    Calls Try.prog 16 #[.pointer (some ⟨g, 0, none⟩), .int .i64 i] w fun e w' => e = .returned (rdV l i) ∧ Below w.heap.size w w' := by
  have HC := Lib.hid (closed_any g i 1 64 w hi (by unfold I64; omega) (by omega))
  by_cases hr : 0 ≤ i ∧ i < 64
  · obtain ⟨n, rfl⟩ : ∃ n : Nat, i = n := ⟨i.toNat, by omega⟩
    have hn : n < 64 := by omega
    rw [show (64 : Int) = (64 : Nat) from rfl, clE_in hn] at HC
    have hb := h.b k n hn
    have hv := h.v k n hn
    have e1 : rdV l n = .tuple #[.int .u8 ((l.getD n (0, false)).1 : Nat), .bool (l.getD n (0, false)).2, .int .i64 0] := by unfold rdV; rw [if_pos hr]; rfl
    rw [e1]
    clear e1 hr h k hi
    generalize (l.getD n (0, false)).1 = x at *
    generalize (l.getD n (0, false)).2 = u at *
    go_enter Try.func16, Try.ntmps16
    go_wp2_with (go_at_call 18; refine HC.out.mono ?_; rintro e w' ⟨rfl, rfl⟩)
    go_quiet (fail)
    go_wp2
    go_ret3
    exact ⟨rfl, below_drewN (Below.refl _ _) nq⟩
  · have e1 : rdV l i = .tuple #[.int .u8 0, .bool false, .int .i64 153] := by unfold rdV; rw [if_neg hr]
    rw [e1]
    rw [clE_bad hr] at HC
    clear e1 hr h k hi
    go_enter Try.func16, Try.ntmps16
    go_wp2_with (go_at_call 18; refine HC.out.mono ?_; rintro e w' ⟨rfl, rfl⟩)
    go_ret3
    exact ⟨rfl, Below.refl _ _⟩
theorem read_nil (i : Int) (w : World) : Calls Try.prog 16 #[.pointer none, .int .i64 i] w fun e w' => e = .returned (.tuple #[.int .u8 0, .bool false, .int .i64 1]) ∧ w = w' := by
  go_enter Try.func16, Try.ntmps16
  go_wp2_with (go_at_call 18; refine (closed_nil _ _ _ _).mono ?_; rintro e w' ⟨rfl, rfl⟩)
  go_ret3
  exact ⟨rfl, rfl⟩
/-- a counter, as Counter answers it -/
def cnV (c : List Nat) (i : Int) : Value := if 0 ≤ i ∧ i < 4 then .tuple #[.int .u32 (c.getD i.toNat 0 : Nat), .int .i64 0] else .tuple #[.int .u32 0, .int .i64 153]
set_option maxHeartbeats 1600000 in
theorem counter_any (g : Nat) (l : List (Nat × Bool)) (c : List Nat) (i : Int) (w : World) (h : FuAt w g l c) (k : FuOk l c) (hi : I64 i) :
    Calls Try.prog 17 #[.pointer (some ⟨g, 0, none⟩), .int .i64 i] w fun e w' => e = .returned (cnV c i) ∧ w = w' := by
  have HC := Lib.hid (closed_any g i 1 4 w hi (by unfold I64; omega) (by omega))
  by_cases hr : 0 ≤ i ∧ i < 4
  · obtain ⟨n, rfl⟩ : ∃ n : Nat, i = n := ⟨i.toNat, by omega⟩
    have hn : n < 4 := by omega
    rw [show (4 : Int) = (4 : Nat) from rfl, clE_in hn] at HC
    have hv := h.n k n hn
    have e1 : cnV c n = .tuple #[.int .u32 (c.getD n 0 : Nat), .int .i64 0] := by unfold cnV; rw [if_pos hr]; rfl
    rw [e1]
    clear e1 hr h k hi
    generalize c.getD n 0 = x at *
    go_enter Try.func17, Try.ntmps17
    go_wp2_with (go_at_call 18; refine HC.out.mono ?_; rintro e w' ⟨rfl, rfl⟩)
    go_ret2
    exact ⟨rfl, rfl⟩
  · have e1 : cnV c i = .tuple #[.int .u32 0, .int .i64 153] := by unfold cnV; rw [if_neg hr]
    rw [e1]
    rw [clE_bad hr] at HC
    clear e1 hr h k hi
    go_enter Try.func17, Try.ntmps17
    go_wp2_with (go_at_call 18; refine HC.out.mono ?_; rintro e w' ⟨rfl, rfl⟩)
    go_ret2
    exact ⟨rfl, rfl⟩
theorem counter_nil (i : Int) (w : World) : Calls Try.prog 17 #[.pointer none, .int .i64 i] w fun e w' => e = .returned (.tuple #[.int .u32 0, .int .i64 1]) ∧ w = w' := by
  go_enter Try.func17, Try.ntmps17
  go_wp2_with (go_at_call 18; refine (closed_nil _ _ _ _).mono ?_; rintro e w' ⟨rfl, rfl⟩)
  go_ret2
  exact ⟨rfl, rfl⟩
/-- the raising's answer, and the counters behind it -/
def raisE (c : List Nat) (i : Int) (v : Nat) : Int := if 0 ≤ i ∧ i < 4 then (if v < c.getD i.toNat 0 then 152 else 0) else 153
def raisC (c : List Nat) (i : Int) (v : Nat) : List Nat := if 0 ≤ i ∧ i < 4 then (if v < c.getD i.toNat 0 then c else c.set i.toNat v) else c
set_option maxHeartbeats 1600000 in
theorem raise_any (g : Nat) (l : List (Nat × Bool)) (c : List Nat) (i : Int) (v : Nat) (w : World) (h : FuAt w g l c) (k : FuOk l c) (hi : I64 i) :
    Calls Try.prog 11 #[.pointer (some ⟨g, 0, none⟩), .int .i64 i, .int .u32 (v : Nat)] w (FuDone g (.int .i64 (raisE c i v)) l (raisC c i v) w) := by
  have HC := Lib.hid (closed_any g i 1 4 w hi (by unfold I64; omega) (by omega))
  by_cases hr : 0 ≤ i ∧ i < 4
  · obtain ⟨n, rfl⟩ : ∃ n : Nat, i = n := ⟨i.toNat, by omega⟩
    have hn : n < 4 := by omega
    rw [show (4 : Int) = (4 : Nat) from rfl, clE_in hn] at HC
    have hv := h.n k n hn
    by_cases hu : v < c.getD n 0
    · have e1 : raisE c n v = 152 := by unfold raisE; rw [if_pos hr, if_pos (by simpa using hu)]
      have e2 : raisC c n v = c := by unfold raisC; rw [if_pos hr, if_pos (by simpa using hu)]
      rw [e1, e2]
      have t1 : decide (v < c.getD n 0) = true := by simpa using hu
      have HH := Lib.hid h
      clear e1 e2 hu hr h k hi
      generalize c.getD n 0 = x at *
      go_enter Try.func11, Try.ntmps11
      go_wp2_with (go_at_call 18; refine HC.out.mono ?_; rintro e w' ⟨rfl, rfl⟩)
      go_ret
      exact ⟨rfl, HH.out, grown_refl _ _⟩
    · have e1 : raisE c n v = 0 := by unfold raisE; rw [if_pos hr, if_neg (by simpa using hu)]
      have e2 : raisC c n v = c.set n v := by unfold raisC; rw [if_pos hr, if_neg (by simpa using hu)]; rfl
      rw [e1, e2]
      have t1 : decide (v < c.getD n 0) = false := by simpa using hu
      have f1 := Blk.free h (128 + n)
      have HP := Lib.hid (h.up k n v)
      have HG := Lib.hid (grown_setCell w ⟨g, 128 + n, none⟩ (.int .u32 (v : Nat)))
      clear e1 e2 hu hr h k hi
      generalize c.getD n 0 = x at *
      go_enter Try.func11, Try.ntmps11
      go_wp2_with (go_at_call 18; refine HC.out.mono ?_; rintro e w' ⟨rfl, rfl⟩)
      go_ret
      exact ⟨rfl, HP.out, HG.out⟩
  · have e1 : raisE c i v = 153 := by unfold raisE; rw [if_neg hr]
    have e2 : raisC c i v = c := by unfold raisC; rw [if_neg hr]
    rw [e1, e2]
    rw [clE_bad hr] at HC
    have HH := Lib.hid h
    clear e1 e2 hr h k hi
    go_enter Try.func11, Try.ntmps11
    go_wp2_with (go_at_call 18; refine HC.out.mono ?_; rintro e w' ⟨rfl, rfl⟩)
    go_ret
    exact ⟨rfl, HH.out, grown_refl _ _⟩
theorem raise_nil (i : Int) (v : Value) (w : World) : Calls Try.prog 11 #[.pointer none, .int .i64 i, v] w fun e w' => e = .returned (.int .i64 1) ∧ w = w' := by
  go_enter Try.func11, Try.ntmps11
  go_wp2_with (go_at_call 18; refine (closed_nil _ _ _ _).mono ?_; rintro e w' ⟨rfl, rfl⟩)
  go_ret
  exact ⟨rfl, rfl⟩
theorem copy_nil (w : World) : Calls Try.prog 8 #[.pointer none] w fun e w' => e = .returned (.pointer none) ∧ w = w' := by
  go_enter Try.func8, Try.ntmps8
  go_wp2
  go_ret
  exact ⟨rfl, rfl⟩
theorem allocF (w : World) : (Instr.alloc 55 true (.tuple #[])).run Try.prog w = .ok (.pointer (some ⟨w.heap.size, 0, none⟩)) (w.alloc (.cells (fuV l0 c0).toArray 55)) := by simp [Instr.alloc, Sem.run_bind, zeroF]; rfl
theorem prV_one : ∀ (l : List (Nat × Bool)), ∀ v ∈ prV l, v.oneCell' = true
  | [], v, h => by simp [prV] at h
  | p :: l, v, h => by
    simp only [prV, List.mem_cons] at h
    rcases h with rfl | rfl | h
    · rfl
    · rfl
    · exact prV_one l v h
theorem fuV_one (l : List (Nat × Bool)) (c : List Nat) : ∀ v ∈ fuV l c, v.oneCell' = true := fun v h => by
  rcases List.mem_append.1 h with h | h
  · exact prV_one l v h
  · exact natsV_one _ _ v h
theorem infoF : (Try.prog.info? 55).map (·.size) = some 132 := by kernel_rfl
set_option maxHeartbeats 1600000 in
theorem copy_any (g : Nat) (l : List (Nat × Bool)) (c : List Nat) (w : World) (h : FuAt w g l c) (k : FuOk l c) :
    Calls Try.prog 8 #[.pointer (some ⟨g, 0, none⟩)] w fun e w' => e = .returned (.pointer (some ⟨w.heap.size, 0, none⟩)) ∧ FuAt w' w.heap.size l c ∧ Below w.heap.size w w' := by
  have hL : (fuV l c).length = 132 := by rw [fuV, List.length_append, prV_length, natsV_length, k.ll, k.lc]
  have HS := Lib.hid hL
  have HB := Lib.hid h
  have HO := Lib.hid (fuV_one l c)
  clear h hL k
  go_enter Try.func8, Try.ntmps8
  go_wp2_with (first
    | (refine wpList_load_row rfl 55 (.tmp 7) rfl g rfl 55 (fuV l c).toArray (0, 0) _ HB.out Try.underlying55 rfl (by rw [infoF]; simp [HS.out]) ?_)
    | (refine wpList_store_row rfl 55 (.tmp 3) (.tmp 8) rfl w.heap.size (fuV l c).toArray rfl rfl 55 (fuV l0 c0).toArray (Blk.new w 55 (fuV l0 c0)) (by rw [infoF]; simp [HS.out]) (by simp [HS.out]; rfl) (Array.all_eq_true_iff_forall_mem.2 (fun v hv => HO.out v (by simpa using hv))) ?_))
  rw [zeroF]
  go_wp2_with (first
    | (refine wpList_load_row rfl 55 (.tmp 7) rfl g rfl 55 (fuV l c).toArray (0, 0) _ HB.out Try.underlying55 rfl (by rw [infoF]; simp [HS.out]) ?_)
    | (refine wpList_store_row rfl 55 (.tmp 3) (.tmp 8) rfl w.heap.size (fuV l c).toArray rfl rfl 55 (fuV l0 c0).toArray (Blk.new w 55 (fuV l0 c0)) (by rw [infoF]; simp [HS.out]) (by simp [HS.out]; rfl) (Array.all_eq_true_iff_forall_mem.2 (fun v hv => HO.out v (by simpa using hv))) ?_))
  go_ret
  exact ⟨rfl, Blk.setRow (Blk.new w 55 (fuV l0 c0)) (fuV l c), below_setRow' ((Below.refl _ _).alloc (Nat.le_refl _) _) (Nat.le_refl _) _⟩
/-- which of so many things -/
def pickN (i : Int) (m : Nat) : Nat := if i < 0 then (-(i + 1)).toNat % m else i.toNat % m
theorem pickN_lt (i : Int) (m : Nat) (hm : 0 < m) : pickN i m < m := by unfold pickN; split <;> exact Nat.mod_lt _ hm
set_option maxHeartbeats 800000 in
theorem pick_any (i : Int) (m : Nat) (w : World) (hi : I64 i) (hm : 0 < m ∧ m ≤ 64) :
    Calls Try.prog 10 #[.int .i64 i, .int .i64 (m : Nat)] w fun e w' => e = .returned (.int .i64 (pickN i m : Nat)) ∧ w = w' := by
  have hm0 : ((m : Int) == 0) = false := by simp; omega
  by_cases h1 : i < 0
  · obtain ⟨j, hj⟩ : ∃ j : Nat, i = -(j : Int) - 1 := ⟨(-(i + 1)).toNat, by omega⟩
    subst hj
    have e1 : pickN (-(j : Int) - 1) m = j % m := by unfold pickN; rw [if_pos h1, show (-(-(j : Int) - 1 + 1)).toNat = j by omega]
    rw [e1]
    have t1 : decide (-(j : Int) - 1 < 0) = true := by simpa using h1
    have u3 : wrap64 (-wrap64 (-(j : Int))) = j := by unfold wrap64; unfold I64 at hi; omega
    clear e1 h1
    go_enter Try.func10, Try.ntmps10
    go_wp2
    go_ret
    exact ⟨by rw [u3]; rfl, rfl⟩
  · obtain ⟨j, hj⟩ : ∃ j : Nat, i = (j : Int) := ⟨i.toNat, by omega⟩
    subst hj
    have e1 : pickN (j : Int) m = j % m := by unfold pickN; rw [if_neg h1]; rfl
    rw [e1]
    clear e1 h1
    go_enter Try.func10, Try.ntmps10
    go_wp2
    go_ret
    exact ⟨rfl, rfl⟩
end Go.Proofs.Ytcjhjengggfpeaa
