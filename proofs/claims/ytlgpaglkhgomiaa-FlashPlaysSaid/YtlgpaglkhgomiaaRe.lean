/- The document's Write. Condition: sizes. -/
import Derived.Test.YtlgpaglkhgomiaaRd
namespace Go.Proofs.Ytlgpaglkhgomiaa
open Go.RowKit
set_option linter.unusedVariables false
set_option maxRecDepth 100000
set_option linter.unusedSimpArgs false
set_option maxHeartbeats 400000 in
theorem rwrite_off (base r : Nat) (N left many n : Int) (dn : Bool) (bs : List BlkR) (v : Value) (w : World) (h : RfAt w base r N true left dn many bs) :
    Calls Try.prog 31 #[.pointer (some ⟨r, 0, none⟩), .int .i64 n, v] w fun e w' => e = .returned (.int .i64 143) ∧ w = w' := by
  obtain ⟨a, c, c0, c1, c2, c3, c4, c5, _, _⟩ := h.cells
  clear h c1 c4 c5 c3
  go_enter Try.func31, Try.ntmps31
  go_wp2
  go_ret
  exact ⟨rfl, rfl⟩
set_option maxHeartbeats 400000 in
theorem rwrite_out (base r : Nat) (N left many n : Int) (dn : Bool) (bs : List BlkR) (v : Value) (w : World) (h : RfAt w base r N false left dn many bs) (hn : n < 0 ∨ N ≤ n) :
    Calls Try.prog 31 #[.pointer (some ⟨r, 0, none⟩), .int .i64 n, v] w fun e w' => e = .returned (.int .i64 141) ∧ w = w' := by
  obtain ⟨a, c, c0, c1, c2, c3, c4, c5, _, _⟩ := h.cells
  clear h c1 c4 c5 c3
  by_cases q : n < 0
  · clear hn
    go_enter Try.func31, Try.ntmps31
    go_wp2
    go_ret
    exact ⟨rfl, rfl⟩
  · have q2 : N ≤ n := by omega
    clear hn
    go_enter Try.func31, Try.ntmps31
    go_wp2
    go_ret
    exact ⟨rfl, rfl⟩
set_option maxHeartbeats 400000 in
theorem rwrite_short (base r : Nat) (N left many n : Int) (dn : Bool) (bs : List BlkR) (A : Option Addr) (k cp : Nat) (w : World) (h : RfAt w base r N false left dn many bs) (h0 : 0 ≤ n) (h1 : n < N) (hk : k ≠ 512) :
    Calls Try.prog 31 #[.pointer (some ⟨r, 0, none⟩), .int .i64 n, .slice A k cp] w fun e w' => e = .returned (.int .i64 142) ∧ w = w' := by
  obtain ⟨a, c, c0, c1, c2, c3, c4, c5, _, _⟩ := h.cells
  have t1 : ((k : Int) != 512) = true := by simp; omega
  have q1 : ¬ n < 0 := by omega
  have q2 : ¬ N ≤ n := by omega
  clear h c1 c4 c5 c3 hk
  go_enter Try.func31, Try.ntmps31
  go_wp2
  go_ret
  exact ⟨rfl, rfl⟩
set_option maxHeartbeats 1600000 in
theorem rwrite_go (base r : Nat) (N left many n : Int) (dn : Bool) (bs : List BlkR) (A : Option Addr) (cp : Nat) (l : List Nat) (w : World) (h : RfAt w base r N false left dn many bs) (hbin : BIn w A 512 cp l) (hne : ∀ q, A = some q → q.block ≠ r) (hN : N ≤ 1048576) (h0 : 0 ≤ n) (h1 : n < N) (hm0 : 0 ≤ many) (hm1 : many ≤ 4611686018427387904) (hbase : base ≤ w.heap.size)
    (left' : Int) (hc : (left = 0 ∧ left' = 0) ∨ (2 ≤ left ∧ left ≤ 9223372036854775807 ∧ left' = left - 1)) :
    Calls Try.prog 31 #[.pointer (some ⟨r, 0, none⟩), .int .i64 n, .slice A 512 cp] w (RPutIs base r N false left' dn (many + 1) bs n l (.int .i64 0) w) := by
  obtain ⟨a, c, c0, c1, c2, c3, c4, c5, _, _⟩ := h.cells
  have q1 : ¬ n < 0 := by omega
  have q2 : ¬ N ≤ n := by omega
  have f3 := h.free 3
  have t3 : (left != 1) = true := by simp; omega
  rcases hc with ⟨rfl, rfl⟩ | ⟨h2, h2b, rfl⟩
  · have HP := Lib.hid (rput_any base r N 0 many n false dn bs A cp l w h hbin hN h0 h1 hm0 hm1 hbase)
    unfold RPutIs at *
    clear h c1 c4 c5 hbin hne
    go_enter Try.func31, Try.ntmps31
    go_wp2_with fail
    refine HP.out.mono ?_
    rintro e w' ⟨rfl, g, c, hg, hr, hw⟩
    have HR := Lib.hid hr
    have HW := Lib.hid hw
    clear hr hw HP
    go_wp2_with fail
    go_ret
    exact ⟨rfl, g, c, hg, HR.out, HW.out⟩
  · have t4 : (1 : Int) < left := by omega
    obtain ⟨w1, hw1⟩ : ∃ w1, w.setCell ⟨r, 3, none⟩ (.int .i64 (left - 1)) = w1 := ⟨_, rfl⟩
    have hg1 : w.grownBy w1 (some r) := by rw [← hw1]; exact grown_setCell w ⟨r, 3, none⟩ _
    have hR1 : RfAt w1 base r N false (left - 1) dn many bs := h.turn hg1 (fun a c hb => by rw [← hw1]; exact hb.set 3 (.int .i64 (left - 1)))
    have hs1 : w1.heap.size = w.heap.size := by rw [← hw1]; simp
    have hb1 : BIn w1 A 512 cp l := bin_fr hbin (Fr.grown (F := fun j => j = r) hg1 (fun j e _ => by injection e with e; exact e.symm)) (fun q hq _ => hne q hq)
    have HP := Lib.hid (rput_any base r N (left - 1) many n false dn bs A cp l w1 hR1 hb1 hN h0 h1 hm0 hm1 (by omega))
    have HW1 := Lib.hid hw1
    have HG1 := Lib.hid hg1
    unfold RPutIs at *
    clear h c1 c4 c5 hbin hne hR1 hb1 hw1 hg1
    go_enter Try.func31, Try.ntmps31
    go_wp2_with fail
    try rw [HW1.out]
    refine HP.out.mono ?_
    rintro e w' ⟨rfl, g, c, hg, hr, hw⟩
    have HR := Lib.hid hr
    have HW := Lib.hid (grown_trans HG1.out hw)
    have hg' : w.heap.size ≤ g := by omega
    clear hr hw HP hg
    go_wp2_with fail
    go_ret
    exact ⟨rfl, g, c, hg', HR.out, HW.out⟩
set_option maxHeartbeats 1600000 in
theorem rwrite_end (base r : Nat) (N many n : Int) (bs : List BlkR) (A : Option Addr) (cp : Nat) (l : List Nat) (w : World) (h : RfAt w base r N false 1 true many bs) (hbin : BIn w A 512 cp l) (hN : N ≤ 1048576) (h0 : 0 ≤ n) (h1 : n < N) (hm0 : 0 ≤ many) (hm1 : many ≤ 4611686018427387904) (hbase : base ≤ w.heap.size) :
    Calls Try.prog 31 #[.pointer (some ⟨r, 0, none⟩), .int .i64 n, .slice A 512 cp] w (RPutIs base r N true 0 true (many + 1) bs n l (.int .i64 143) w) := by
  obtain ⟨a, c, c0, c1, c2, c3, c4, c5, _, _⟩ := h.cells
  have q1 : ¬ n < 0 := by omega
  have q2 : ¬ N ≤ n := by omega
  have HP := Lib.hid (rput_any base r N 1 many n false true bs A cp l w h hbin hN h0 h1 hm0 hm1 hbase)
  unfold RPutIs at *
  clear h c1 c5 hbin
  go_enter Try.func31, Try.ntmps31
  go_wp2_with fail
  refine HP.out.mono ?_
  rintro e w1 ⟨rfl, g, c, hg, hr, hw⟩
  obtain ⟨a', c', k0, k1, k2, k3, k4, k5, _, _⟩ := hr.cells
  have f2 := hr.free 2
  have f3 := hr.free 3
  obtain ⟨w2, hw2⟩ : ∃ w2, (w1.setCell ⟨r, 3, none⟩ (.int .i64 0)).setCell ⟨r, 2, none⟩ (.bool true) = w2 := ⟨_, rfl⟩
  have hg2 : w1.grownBy w2 (some r) := by rw [← hw2]; exact grown_trans (grown_setCell w1 ⟨r, 3, none⟩ _) (grown_setCell _ ⟨r, 2, none⟩ _)
  have HR2 := Lib.hid (hr.turn (off' := true) (left' := 0) (dn' := true) (many' := many + 1) hg2 (fun a c hb => by rw [← hw2]; exact (hb.set 3 (.int .i64 0)).set 2 (.bool true)))
  have HW := Lib.hid (grown_trans hw hg2)
  have HW2 := Lib.hid hw2
  clear hr hw HP hw2 hg2 k0 k1 k4 k5
  go_wp2_with fail
  try rw [HW2.out]
  go_ret
  exact ⟨rfl, g, c, hg, HR2.out, HW.out⟩
set_option maxHeartbeats 800000 in
theorem rwrite_lost (base r : Nat) (N many n : Int) (bs : List BlkR) (A : Option Addr) (cp : Nat) (w : World) (h : RfAt w base r N false 1 false many bs) (h0 : 0 ≤ n) (h1 : n < N) :
    Calls Try.prog 31 #[.pointer (some ⟨r, 0, none⟩), .int .i64 n, .slice A 512 cp] w (RTurn base r N true 0 false many bs (.int .i64 143) w) := by
  obtain ⟨a, c, c0, c1, c2, c3, c4, c5, _, _⟩ := h.cells
  have q1 : ¬ n < 0 := by omega
  have q2 : ¬ N ≤ n := by omega
  have f2 := h.free 2
  have f3 := h.free 3
  obtain ⟨w2, hw2⟩ : ∃ w2, (w.setCell ⟨r, 3, none⟩ (.int .i64 0)).setCell ⟨r, 2, none⟩ (.bool true) = w2 := ⟨_, rfl⟩
  have hg2 : w.grownBy w2 (some r) := by rw [← hw2]; exact grown_trans (grown_setCell w ⟨r, 3, none⟩ _) (grown_setCell _ ⟨r, 2, none⟩ _)
  have HR2 := Lib.hid (h.turn (off' := true) (left' := 0) (dn' := false) (many' := many) hg2 (fun a c hb => by rw [← hw2]; exact (hb.set 3 (.int .i64 0)).set 2 (.bool true)))
  have HW2 := Lib.hid hw2
  have HG2 := Lib.hid hg2
  unfold RTurn
  clear h c1 c5 hw2 hg2
  go_enter Try.func31, Try.ntmps31
  go_wp2_with fail
  try rw [HW2.out]
  go_ret
  exact ⟨rfl, HR2.out, HG2.out⟩
end Go.Proofs.Ytlgpaglkhgomiaa
