/- For KecPlays: Left (both), Copy, Read that is refused; late and at once are the same bytes. No condition. -/
import Derived.Test.YtidnlaibfkjgpaaDoorKFr
import Derived.Test.YtidnlaibfkjgpaaDoorKMeth
import Derived.Test.YtidnlaibfkjgpaaDoorKRefS
import Derived.Test.YtidnlaibfkjgpaaDoorKRi
import Derived.Test.YtidnlaibfkjgpaaDoorKPc
namespace Go.Proofs.YtidnlaibfkjgpaaDoor
open Go.RowKit
set_option linter.unusedVariables false
set_option linter.unusedSimpArgs false
theorem sizeK_cases {k : Nat} (hk : IsKind k) : sizeK k = -1 ∨ (0 ≤ sizeK k ∧ sizeK k ≤ 64) := by
  rcases hk with rfl | rfl | rfl | rfl | rfl <;> simp [sizeK]
theorem leftA_any (g k a : Nat) (gv : Bool) (lf : Int) (s : List Nat) (w : World) (h : SpAt w g k a gv lf s) : Calls Tryd.prog 20 #[.pointer (some ⟨g, 0, none⟩)] w fun e w' => e = .returned (.int .i64 lf) ∧ w = w' := by
  have hl := sp_lf h.2.2.2.2 h.2.1.1
  clear h
  go_enter Tryd.func20, Tryd.ntmps20
  go_wp2_with fail
  go_ret
  exact ⟨rfl, rfl⟩
set_option maxHeartbeats 800000 in
theorem refLeft_any (g k N : Nat) (hk : IsKind k) (w : World) (h0 : w.cell? ⟨g, 0, none⟩ = some (.int .i64 (k : Nat))) (h3 : w.cell? ⟨g, 3, none⟩ = some (.int .i64 (N : Nat))) (hN : N ≤ 100000000) :
    Calls Tryd.prog 21 #[.pointer (some ⟨g, 0, none⟩)] w fun e w' => e = .returned (.int .i64 (leftN (sizeK k) N)) ∧ w = w' := by
  have HRK := Lib.hid (fun w => refKind_any k hk w)
  have hs := sizeK_cases hk
  clear hk
  unfold leftN
  generalize sizeK k = z at *
  rcases hs with rfl | ⟨z1, z2⟩
  · go_enter Tryd.func21, Tryd.ntmps21
    go_wp2_with fail
    refine (HRK.out _).mono ?_
    rintro e w' ⟨rfl, rfl⟩
    go_wp2_with fail
    go_ret
    exact ⟨rfl, rfl⟩
  · have hz : ¬ z < 0 := by omega
    have hz1 : ¬ z = -1 := by omega
    have e1 : IntKind.i64.wrap (z - (N : Int)) = z - (N : Int) := IntWalk.i64_in _ (by omega)
    go_enter Tryd.func21, Tryd.ntmps21
    go_wp2_with fail
    refine (HRK.out _).mono ?_
    rintro e w' ⟨rfl, rfl⟩
    go_wp2_with fail
    go_ret
    exact ⟨rfl, rfl⟩
theorem spV_zero : (spV 0 0 false 0 (zeros 25)).length = 29 := by decide
theorem spV_len (k a : Nat) (gv : Bool) (lf : Int) (s : List Nat) (hs : s.length = 25) : (spV k a gv lf s).length = 29 := by simp [spV, natsV_length, hs]
theorem spV_one (k a : Nat) (gv : Bool) (lf : Int) (s : List Nat) : ∀ v ∈ spV k a gv lf s, v.oneCell' = true := by
  intro v hv
  unfold spV at hv
  simp only [List.mem_cons, List.mem_append, List.not_mem_nil, or_false] at hv
  rcases hv with rfl | hv | rfl | rfl | rfl
  · rfl
  · exact natsV_one _ _ v hv
  · rfl
  · rfl
  · rfl
theorem info76c : (Tryd.prog.info? 76).map (·.size) = some 29 := by kernel_rfl
/-- another one, that has come as far -/
def CopyIs (k a : Nat) (gv : Bool) (lf : Int) (s : List Nat) (w : World) (e : Ending) (w' : World) : Prop := ∃ g, e = .returned (.pointer (some ⟨g, 0, none⟩)) ∧ w.heap.size ≤ g ∧ SpAt w' g k a gv lf s ∧ Below w.heap.size w w'
set_option maxRecDepth 100000 in
set_option maxHeartbeats 1600000 in
theorem copy_any (g k a : Nat) (gv : Bool) (lf : Int) (s : List Nat) (w : World) (h : SpAt w g k a gv lf s) : Calls Tryd.prog 25 #[.pointer (some ⟨g, 0, none⟩)] w (CopyIs k a gv lf s w) := by
  have hw : 1 ≤ w.heap.size := by have := h.2.2.2.2.lt; omega
  have HSP := Lib.hid (fun (w' : World) (g' : Nat) (hg : 1 ≤ g') (hb : Blk w' g' 76 (spV k a gv lf s)) => show SpAt w' g' k a gv lf s from ⟨h.1, h.2.1, h.2.2.1, hg, hb⟩)
  have HB := Lib.hid h.2.2.2.2
  have HLN := Lib.hid (spV_len k a gv lf s h.2.1.1)
  have HON := Lib.hid (spV_one k a gv lf s)
  clear h
  generalize spV k a gv lf s = cs at *
  go_enter Tryd.func25, Tryd.ntmps25
  go_wp2_with (first | (refine wpList_load_row rfl 76 (.tmp 7) rfl g rfl 76 cs.toArray (0, 0) _ HB.out Tryd.underlying76 rfl (by rw [info76c]; simp [HLN.out]) ?_) | (refine wpList_store_row rfl 76 (.tmp 3) (.tmp 8) rfl w.heap.size cs.toArray rfl rfl 76 (spV 0 0 false 0 (zeros 25)).toArray (Blk.new w 76 (spV 0 0 false 0 (zeros 25))) (by rw [info76c]; simp [HLN.out]) (by simp [HLN.out, spV_zero]) (Array.all_eq_true_iff_forall_mem.2 (fun v hv => HON.out v (by simpa using hv))) ?_))
  go_ret
  exact ⟨w.heap.size, rfl, Nat.le_refl _, HSP.out _ _ hw ((Blk.new w 76 (spV 0 0 false 0 (zeros 25))).setRow cs), below_setRow' ((Below.refl w.heap.size w).alloc (Nat.le_refl _) _) (Nat.le_refl _) _⟩
set_option maxHeartbeats 800000 in
theorem read_bad (g : Nat) (n : Int) (hn : n < 0 ∨ 65536 < n) (h64 : -9223372036854775808 ≤ n ∧ n ≤ 9223372036854775807) (w : World) : Calls Tryd.prog 24 #[.pointer (some ⟨g, 0, none⟩), .int .i64 n] w fun e w' => e = .returned (.tuple #[.slice none 0 0, .int .i64 1]) ∧ ∃ q, w' = w.drewN q := by
  have HC := Lib.hid (fun w => canAsk_any n h64 w)
  have hd : (decide ((0 : Int) ≤ n) && decide (n ≤ 65536)) = false := by
    rcases hn with h | h
    · rw [decide_eq_false (show ¬ (0 : Int) ≤ n by omega)]; rfl
    · rw [decide_eq_false (show ¬ n ≤ 65536 by omega)]; simp
  rw [hd] at HC
  go_enter Tryd.func24, Tryd.ntmps24
  go_wp2_with fail
  refine (HC.out _).mono ?_
  rintro e w' ⟨rfl, q, rfl⟩
  go_wp2_with fail
  go_ret2
  exact ⟨rfl, q, rfl⟩
set_option maxHeartbeats 800000 in
theorem read_spent (g k a n : Nat) (gv : Bool) (lf : Int) (s : List Nat) (w : World) (h : SpAt w g k a gv lf s) (hn : n ≤ 65536) (h1 : lf ≠ -1) (h2 : lf < (n : Int)) : Calls Tryd.prog 24 #[.pointer (some ⟨g, 0, none⟩), .int .i64 (n : Nat)] w fun e w' => e = .returned (.tuple #[.slice none 0 0, .int .i64 33]) ∧ ∃ q, w' = w.drewN q := by
  have HC := Lib.hid (fun w => canAsk_any (n : Nat) ⟨by omega, by omega⟩ w)
  have hd : (decide ((0 : Int) ≤ (n : Nat)) && decide (((n : Nat) : Int) ≤ 65536)) = true := by rw [decide_eq_true (by omega), decide_eq_true (by omega)]; rfl
  rw [hd] at HC
  have hl := sp_lf h.2.2.2.2 h.2.1.1
  have hlb : (lf != -1) = true := by rw [bne_iff_ne]; exact h1
  clear h hd
  go_enter Tryd.func24, Tryd.ntmps24
  go_wp2_with fail
  refine (HC.out _).mono ?_
  rintro e w' ⟨rfl, q, rfl⟩
  go_wp2_with fail
  go_ret2
  exact ⟨rfl, q, rfl⟩
/-- late and at once: the same bytes -/
theorem sqB_part (k : Nat) (hk : IsKind k) (s : List Nat) (b n : Nat) : sqB (rateK k) (sqS (rateK k) (s, 0) b) n = partK k s b n := by
  have hr := rateK_le hk
  unfold sqB partK
  congr 1
  funext i
  rw [← sqS_add]
  exact late_byte (by omega) s (b + i)
theorem allK_part (k : Nat) (hk : IsKind k) (l : List Nat) (n : Nat) : allK k l n = partK k (endN k (absL (rateK k) (zeros 25, 0) l)) 0 n := by
  rw [← sqB_part k hk]
  rfl
end Go.Proofs.YtidnlaibfkjgpaaDoor
