/- The pair, a step: the blocks; or nothing. Condition: sizes. -/
import Derived.Test.YtlgpaglkhgomiaaQb
import Derived.Test.YtlgpaglkhgomiaaRl
namespace Go.Proofs.Ytlgpaglkhgomiaa
open Go.RowKit
set_option linter.unusedVariables false
set_option maxRecDepth 100000
set_option linter.unusedSimpArgs false
set_option maxHeartbeats 12800000 in
theorem step_6 (n m : Int) (A : Option Addr) (k c : Nat) (l : List Nat) (raw d : Bool) (fr sz : Nat) (base i : Nat) (s : SR) (w : World) (h : Good w base i s) (hi : i ≤ 1000) (hb : BIn w A k c l) (hn : I64 n) (hm : I64 m) (hfr : fr < 18446744073709551616) (hsz : sz < 18446744073709551616) :
    Calls Try.prog 11 #[.pointer (some ⟨s.p, 0, none⟩), .agg #[.int .i64 6, .int .i64 n, .int .i64 m, .slice A k c, .bool raw, .bool d, .int .u64 (fr : Nat), .int .u64 (sz : Nat)]] w (StepOk base i s w) := by
  have ha : Below w.heap.size w (w.alloc (.cells #[.int .i64 6, .int .i64 n, .int .i64 m, .slice A k c, .bool raw, .bool d, .int .u64 (fr : Nat), .int .u64 (sz : Nat)] 44)) := (Below.refl _ _).alloc (Nat.le_refl _) _
  have hg1 := h.below ha
  have HX := Lib.hid (Blk.new w 44 [.int .i64 6, .int .i64 n, .int .i64 m, .slice A k c, .bool raw, .bool d, .int .u64 (fr : Nat), .int .u64 (sz : Nat)])
  have HA := Lib.hid ha
  have HG := Lib.hid h
  have HG1 := Lib.hid hg1
  have HB1 := Lib.hid (hb.below ha)
  obtain ⟨a2, c2, a3, c3, hpb, hq2, hq3⟩ := hg1.pr
  have HP := Lib.hid hpb
  clear hpb hq2 hq3 ha h hg1 hb
  go_enter Try.func11, Try.ntmps11
  go_upto_region 29 with (fail)
  obtain ⟨w1, hw1⟩ : ∃ w1, w.alloc (.cells #[.int .i64 6, .int .i64 n, .int .i64 m, .slice A k c, .bool raw, .bool d, .int .u64 (fr : Nat), .int .u64 (sz : Nat)] 44) = w1 := ⟨_, rfl⟩
  try rw [hw1]
  rw [hw1] at HX HA HG1 HB1 HP
  clear hw1
  refine wp_region_G (fun w_ => Blk w_ w.heap.size 44 [.int .i64 6, .int .i64 n, .int .i64 m, .slice A k c, .bool raw, .bool d, .int .u64 (fr : Nat), .int .u64 (sz : Nat)] ∧ Blk w_ s.p 39 [.pointer (some ⟨s.f, 0, none⟩), .pointer (some ⟨s.r, 0, none⟩), .slice a2 s.ans.length c2, .slice a3 s.ans.length c3]) 11 (by kernel_rfl) ⟨HX.out.drew, HP.out.drew⟩ ?_
  refine wpAnyG_take (oi := _) (v := _) (fun _ _ hS_ hb_ => ⟨hS_.1.gr hb_, hS_.2.gr hb_⟩) (i := 0) rfl (by kernel_rfl) (fun _ _ _ h => h) (pureG (by rfl) (by intro w; go_simp; first | done | with_reducible rfl)) ?_
  try simp only [Act.put, List.getElem_toArray, List.getElem_cons_succ, List.getElem_cons_zero, List.setIfInBounds_toArray, List.set_cons_zero, List.set_cons_succ]
  refine wpAnyG_take (oi := _) (v := _) (fun _ _ hS_ hb_ => ⟨hS_.1.gr hb_, hS_.2.gr hb_⟩) (i := 1) rfl (by kernel_rfl) (fun _ _ _ h => h) (pureG (by rfl) (by intro w; go_simp; first | done | with_reducible rfl)) ?_
  try simp only [Act.put, List.getElem_toArray, List.getElem_cons_succ, List.getElem_cons_zero, List.setIfInBounds_toArray, List.set_cons_zero, List.set_cons_succ]
  refine wpAnyG_take (oi := _) (v := _) (fun _ _ hS_ hb_ => ⟨hS_.1.gr hb_, hS_.2.gr hb_⟩) (i := 2) rfl (by kernel_rfl) (fun _ _ _ h => h) (pureG (by rfl) (by intro w; go_simp; first | done | with_reducible rfl)) ?_
  try simp only [Act.put, List.getElem_toArray, List.getElem_cons_succ, List.getElem_cons_zero, List.setIfInBounds_toArray, List.set_cons_zero, List.set_cons_succ]
  refine wpAnyG_take (oi := _) (v := _) (fun _ _ hS_ hb_ => ⟨hS_.1.gr hb_, hS_.2.gr hb_⟩) (i := 3) rfl (by kernel_rfl) (fun _ _ _ h => h) (worldG (by rfl) (by intro w_ hS_; have q0 := hS_.2.cell 0; go_simp; first | done | with_reducible rfl)) ?_
  try simp only [Act.put, List.getElem_toArray, List.getElem_cons_succ, List.getElem_cons_zero, List.setIfInBounds_toArray, List.set_cons_zero, List.set_cons_succ]
  refine wpAnyG_take (oi := _) (v := _) (fun _ _ hS_ hb_ => ⟨hS_.1.gr hb_, hS_.2.gr hb_⟩) (i := 5) rfl (by kernel_rfl) (fun _ _ _ h => h) (pureG (by rfl) (by intro w; go_simp; first | done | with_reducible rfl)) ?_
  try simp only [Act.put, List.getElem_toArray, List.getElem_cons_succ, List.getElem_cons_zero, List.setIfInBounds_toArray, List.set_cons_zero, List.set_cons_succ]
  refine wpAnyG_take (oi := _) (v := _) (fun _ _ hS_ hb_ => ⟨hS_.1.gr hb_, hS_.2.gr hb_⟩) (i := 6) rfl (by kernel_rfl) (fun _ _ _ h => h) (pureG (by rfl) (by intro w; go_simp; first | done | with_reducible rfl)) ?_
  try simp only [Act.put, List.getElem_toArray, List.getElem_cons_succ, List.getElem_cons_zero, List.setIfInBounds_toArray, List.set_cons_zero, List.set_cons_succ]
  refine wpAnyG_take (oi := _) (v := _) (fun _ _ hS_ hb_ => ⟨hS_.1.gr hb_, hS_.2.gr hb_⟩) (i := 7) rfl (by kernel_rfl) (fun _ _ _ h => h) (pureG (by rfl) (by intro w; go_simp; first | done | with_reducible rfl)) ?_
  try simp only [Act.put, List.getElem_toArray, List.getElem_cons_succ, List.getElem_cons_zero, List.setIfInBounds_toArray, List.set_cons_zero, List.set_cons_succ]
  refine wpAnyG_take (oi := _) (v := _) (fun _ _ hS_ hb_ => ⟨hS_.1.gr hb_, hS_.2.gr hb_⟩) (i := 8) rfl (by kernel_rfl) (fun _ _ _ h => h) (worldG (by rfl) (by intro w_ hS_; have q0 := hS_.2.cell 1; go_simp; first | done | with_reducible rfl)) ?_
  try simp only [Act.put, List.getElem_toArray, List.getElem_cons_succ, List.getElem_cons_zero, List.setIfInBounds_toArray, List.set_cons_zero, List.set_cons_succ]
  refine wpAnyG_only (i := 4) (by kernel_rfl) (fun W1 hW1 hS1 => ?_)
  have hG01 : Gr w1 W1 := (Gr.drew w1).trans hW1
  have hg1 := HG1.out.below hG01
  have hnb := HG.out.nb
  refine wpOp_callE (i := 4) rfl (by rfl) rfl Try.func17 (by kernel_rfl) (by kernel_rfl) #[.pointer (some ⟨s.f, 0, none⟩)] (by simp [Act.eval]) ((fblocks_any s.f s.mb s.K s.N s.cut s.wr s.on s.dn _ _ W1 hg1.fl hg1.mp (by omega)).mono ?_)
  rintro e W2 ⟨aA, nA, cA, bA, rfl, hlA, hnA, htA, hb2⟩
  refine ⟨_, rfl, .inr ⟨hS1.1.gr hb2, hS1.2.gr hb2⟩, ?_⟩
  try simp only [Act.put, List.getElem_toArray, List.getElem_cons_succ, List.getElem_cons_zero, List.setIfInBounds_toArray, List.set_cons_zero, List.set_cons_succ]
  refine wpAnyG_only (i := 9) (by kernel_rfl) (fun W3 hW3 hS3 => ?_)
  have hg3 := (hg1.below hb2).below hW3
  refine wpOp_callE (i := 9) rfl (by rfl) rfl Try.func18 (by kernel_rfl) (by kernel_rfl) #[.pointer (some ⟨s.r, 0, none⟩)] (by simp [Act.eval]) ((rblocks_any base s.r s.N s.cut s.wr (!s.on) s.dn s.bs W3 hg3.rf (by omega)).mono ?_)
  rintro e W4 ⟨aB, nB, cB, bB, rfl, hlB, hnB, htB, hb4⟩
  refine ⟨_, rfl, .inr ⟨hS3.1.gr hb4, hS3.2.gr hb4⟩, ?_⟩
  try simp only [Act.put, List.getElem_toArray, List.getElem_cons_succ, List.getElem_cons_zero, List.setIfInBounds_toArray, List.set_cons_zero, List.set_cons_succ]
  refine wpAnyG_only (i := 10) (by kernel_rfl) (fun W5 hW5 hS5 => ?_)
  refine wpOp_callE (i := 10) rfl (by rfl) rfl Try.func16 (by kernel_rfl) (by kernel_rfl) #[.slice aA nA cA, .slice aB nB cB] (by simp [Act.eval]) ((sameBl_any W5 aA aB nA cA nB cB bA bB (((hlA.below hW3).below hb4).below hW5) (hlB.below hW5) (told_eq htA htB) (by omega)).mono ?_)
  rintro e W6 ⟨rfl, hb6⟩
  refine ⟨_, rfl, .inr ⟨hS5.1.gr hb6, hS5.2.gr hb6⟩, ?_⟩
  try simp only [Act.put, List.getElem_toArray, List.getElem_cons_succ, List.getElem_cons_zero, List.setIfInBounds_toArray, List.set_cons_zero, List.set_cons_succ]
  refine wpAnyG_run (i := 11) (v := .bool true) (by kernel_rfl) rfl (by rfl) (by intro w_ hS_; go_simp; first | done | with_reducible rfl) ?_
  try simp only [Act.put, List.getElem_toArray, List.getElem_cons_succ, List.getElem_cons_zero, List.setIfInBounds_toArray, List.set_cons_zero, List.set_cons_succ]
  refine wpAnyG_done (by kernel_rfl) (fun W9 hW9 => ?_) _
  have hg9 := ((((hg3.below hb4).below hW5).below hb6).below hW9).up (Nat.le_succ i)
  have hb9 : Below w.heap.size w W9 := gr_bel (gr_bel (gr_bel (gr_bel (gr_bel (gr_bel (gr_bel HA.out hG01) hb2) hW3) hb4) hW5) hb6) hW9
  have HE := Lib.hid (show StepOk base i s w (.returned (.bool true)) W9 from ⟨rfl, s, hg9, rfl, rfl, rfl, HG.out.bel hb9⟩)
  clear hg1 hg3 hg9 hnb hlA hlB htA htB hb2 hb4 hb6 hW9 hS1 hS3 hS5
  go_wp2_with fail
  go_ret
  exact HE.out
set_option maxHeartbeats 12800000 in
theorem step_0 (kd n m : Int) (A : Option Addr) (k c : Nat) (l : List Nat) (raw d : Bool) (fr sz : Nat) (base i : Nat) (s : SR) (w : World) (h : Good w base i s) (hi : i ≤ 1000) (hb : BIn w A k c l) (hn : I64 n) (hm : I64 m) (hfr : fr < 18446744073709551616) (hsz : sz < 18446744073709551616) (hkd : kd ≠ 1 ∧ kd ≠ 2 ∧ kd ≠ 3 ∧ kd ≠ 4 ∧ kd ≠ 5 ∧ kd ≠ 6) :
    Calls Try.prog 11 #[.pointer (some ⟨s.p, 0, none⟩), .agg #[.int .i64 kd, .int .i64 n, .int .i64 m, .slice A k c, .bool raw, .bool d, .int .u64 (fr : Nat), .int .u64 (sz : Nat)]] w (StepOk base i s w) := by
  have ha : Below w.heap.size w (w.alloc (.cells #[.int .i64 kd, .int .i64 n, .int .i64 m, .slice A k c, .bool raw, .bool d, .int .u64 (fr : Nat), .int .u64 (sz : Nat)] 44)) := (Below.refl _ _).alloc (Nat.le_refl _) _
  have hg1 := h.below ha
  have HX := Lib.hid (Blk.new w 44 [.int .i64 kd, .int .i64 n, .int .i64 m, .slice A k c, .bool raw, .bool d, .int .u64 (fr : Nat), .int .u64 (sz : Nat)])
  have HA := Lib.hid ha
  have HG := Lib.hid h
  have HG1 := Lib.hid hg1
  have HB1 := Lib.hid (hb.below ha)
  obtain ⟨a2, c2, a3, c3, hpb, hq2, hq3⟩ := hg1.pr
  have HP := Lib.hid hpb
  clear hpb hq2 hq3 ha h hg1 hb
  have t1 : (kd == 1) = false := by simp; omega
  have t2 : (kd == 2) = false := by simp; omega
  have t3 : (kd == 3) = false := by simp; omega
  have t4 : (kd == 4) = false := by simp; omega
  have t5 : (kd == 5) = false := by simp; omega
  have t6 : (kd == 6) = false := by simp; omega
  have HE := Lib.hid (show StepOk base i s w (.returned (.bool true)) _ from ⟨rfl, s, HG1.out.up (Nat.le_succ i), rfl, rfl, rfl, HG.out.bel HA.out⟩)
  clear hkd
  go_enter Try.func11, Try.ntmps11
  go_wp2
  go_ret
  exact HE.out
end Go.Proofs.Ytlgpaglkhgomiaa
