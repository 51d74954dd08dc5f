/- The pair, a step: a read. Condition: sizes. -/
import Derived.Test.YtlgpaglkhgomiaaQc
namespace Go.Proofs.Ytlgpaglkhgomiaa
open Go.RowKit
set_option linter.unusedVariables false
set_option maxRecDepth 100000
set_option linter.unusedSimpArgs false
set_option maxHeartbeats 12800000 in
theorem step_2 (n m : Int) (A : Option Addr) (k c : Nat) (l : List Nat) (raw d : Bool) (fr sz : Nat) (base i : Nat) (s : SR) (w : World) (h : Good w base i s) (hi : i ≤ 1000) (hb : BIn w A k c l) (hn : I64 n) (hm : I64 m) (hfr : fr < 18446744073709551616) (hsz : sz < 18446744073709551616) :
    Calls Try.prog 11 #[.pointer (some ⟨s.p, 0, none⟩), .agg #[.int .i64 2, .int .i64 n, .int .i64 m, .slice A k c, .bool raw, .bool d, .int .u64 (fr : Nat), .int .u64 (sz : Nat)]] w (StepOk base i s w) := by
  have ha : Below w.heap.size w (w.alloc (.cells #[.int .i64 2, .int .i64 n, .int .i64 m, .slice A k c, .bool raw, .bool d, .int .u64 (fr : Nat), .int .u64 (sz : Nat)] 44)) := (Below.refl _ _).alloc (Nat.le_refl _) _
  have hg1 := h.below ha
  have HX := Lib.hid (Blk.new w 44 [.int .i64 2, .int .i64 n, .int .i64 m, .slice A k c, .bool raw, .bool d, .int .u64 (fr : Nat), .int .u64 (sz : Nat)])
  have HA := Lib.hid ha
  have HG := Lib.hid h
  have HG1 := Lib.hid hg1
  have HB1 := Lib.hid (hb.below ha)
  obtain ⟨a2, c2, a3, c3, hpb, hq2, hq3⟩ := hg1.pr
  have HP := Lib.hid hpb
  clear hpb hq2 hq3 ha h hg1 hb
  go_enter Try.func11, Try.ntmps11
  go_upto_region 16 with (fail)
  obtain ⟨w1, hw1⟩ : ∃ w1, w.alloc (.cells #[.int .i64 2, .int .i64 n, .int .i64 m, .slice A k c, .bool raw, .bool d, .int .u64 (fr : Nat), .int .u64 (sz : Nat)] 44) = w1 := ⟨_, rfl⟩
  try rw [hw1]
  rw [hw1] at HX HA HG1 HB1 HP
  clear hw1
  obtain ⟨E, hE⟩ : ∃ E, clE s.on s.N n = E := ⟨_, rfl⟩
  have HE := Lib.hid hE
  clear hE
  refine wp_region_G (fun w_ => Blk w_ w.heap.size 44 [.int .i64 2, .int .i64 n, .int .i64 m, .slice A k c, .bool raw, .bool d, .int .u64 (fr : Nat), .int .u64 (sz : Nat)] ∧ Blk w_ s.p 39 [.pointer (some ⟨s.f, 0, none⟩), .pointer (some ⟨s.r, 0, none⟩), .slice a2 s.ans.length c2, .slice a3 s.ans.length c3]) 11 (by kernel_rfl) ⟨HX.out.drew, HP.out.drew⟩ ?_
  refine wpAnyG_take (oi := _) (v := _) (fun _ _ hS_ hb_ => ⟨hS_.1.gr hb_, hS_.2.gr hb_⟩) (i := 0) rfl (by kernel_rfl) (fun _ _ _ h => h) (pureG (by rfl) (by intro w; go_simp; first | done | with_reducible rfl)) ?_
  try simp only [Act.put, List.getElem_toArray, List.getElem_cons_succ, List.getElem_cons_zero, List.setIfInBounds_toArray, List.set_cons_zero, List.set_cons_succ]
  refine wpAnyG_take (oi := _) (v := _) (fun _ _ hS_ hb_ => ⟨hS_.1.gr hb_, hS_.2.gr hb_⟩) (i := 1) rfl (by kernel_rfl) (fun _ _ _ h => h) (pureG (by rfl) (by intro w; go_simp; first | done | with_reducible rfl)) ?_
  try simp only [Act.put, List.getElem_toArray, List.getElem_cons_succ, List.getElem_cons_zero, List.setIfInBounds_toArray, List.set_cons_zero, List.set_cons_succ]
  refine wpAnyG_take (oi := _) (v := _) (fun _ _ hS_ hb_ => ⟨hS_.1.gr hb_, hS_.2.gr hb_⟩) (i := 2) rfl (by kernel_rfl) (fun _ _ _ h => h) (pureG (by rfl) (by intro w; go_simp; first | done | with_reducible rfl)) ?_
  try simp only [Act.put, List.getElem_toArray, List.getElem_cons_succ, List.getElem_cons_zero, List.setIfInBounds_toArray, List.set_cons_zero, List.set_cons_succ]
  refine wpAnyG_take (oi := _) (v := _) (fun _ _ hS_ hb_ => ⟨hS_.1.gr hb_, hS_.2.gr hb_⟩) (i := 3) rfl (by kernel_rfl) (fun _ _ _ h => h) (worldG (by rfl) (by intro w_ hS_; have q0 := hS_.2.cell 0; go_simp; first | done | with_reducible rfl)) ?_
  try simp only [Act.put, List.getElem_toArray, List.getElem_cons_succ, List.getElem_cons_zero, List.setIfInBounds_toArray, List.set_cons_zero, List.set_cons_succ]
  refine wpAnyG_take (oi := _) (v := _) (fun _ _ hS_ hb_ => ⟨hS_.1.gr hb_, hS_.2.gr hb_⟩) (i := 4) rfl (by kernel_rfl) (fun _ _ _ h => h) (pureG (by rfl) (by intro w; go_simp; first | done | with_reducible rfl)) ?_
  try simp only [Act.put, List.getElem_toArray, List.getElem_cons_succ, List.getElem_cons_zero, List.setIfInBounds_toArray, List.set_cons_zero, List.set_cons_succ]
  refine wpAnyG_take (oi := _) (v := _) (fun _ _ hS_ hb_ => ⟨hS_.1.gr hb_, hS_.2.gr hb_⟩) (i := 5) rfl (by kernel_rfl) (fun _ _ _ h => h) (worldG (by rfl) (by intro w_ hS_; have q0 := hS_.1.cell 1; go_simp; first | done | with_reducible rfl)) ?_
  try simp only [Act.put, List.getElem_toArray, List.getElem_cons_succ, List.getElem_cons_zero, List.setIfInBounds_toArray, List.set_cons_zero, List.set_cons_succ]
  refine wpAnyG_only (i := 6) (by kernel_rfl) (fun W1 hW1 hS1 => ?_)
  have hG01 : Gr w1 W1 := (Gr.drew w1).trans hW1
  have hg1 := HG1.out.below hG01
  have hnb := HG.out.nb
  have hfc := fread_any s.f s.mb s.K s.N s.cut s.wr n s.on s.dn _ _ W1 hg1.fl hg1.mp (by omega) (cOf_is hg1.rf.isB)
  rw [HE.out] at hfc
  refine wpOp_callE (i := 6) rfl (by rfl) rfl Try.func23 (by kernel_rfl) (by kernel_rfl) #[.pointer (some ⟨s.f, 0, none⟩), .int .i64 n] (by simp [Act.eval]) (hfc.mono ?_)
  rintro e W2 ⟨xA, rfl, hlA, hokA, hfrA, hb2⟩
  refine ⟨_, rfl, .inr ⟨hS1.1.gr hb2, hS1.2.gr hb2⟩, ?_⟩
  try simp only [Act.put, List.getElem_toArray, List.getElem_cons_succ, List.getElem_cons_zero, List.setIfInBounds_toArray, List.set_cons_zero, List.set_cons_succ]
  refine wpAnyG_run (i := 7) (v := .tuple #[.slice xA.a xA.n xA.c, .int .i64 E]) (by kernel_rfl) rfl (by rfl) (by intro w_ hS_; go_simp; first | done | with_reducible rfl) ?_
  try simp only [Act.put, List.getElem_toArray, List.getElem_cons_succ, List.getElem_cons_zero, List.setIfInBounds_toArray, List.set_cons_zero, List.set_cons_succ]
  refine wpAnyG_take (oi := _) (v := _) (fun _ _ hS_ hb_ => ⟨hS_.1.gr hb_, hS_.2.gr hb_⟩) (i := 8) rfl (by kernel_rfl) (fun _ _ _ h => h) (pureG (by rfl) (by intro w; go_simp; first | done | with_reducible rfl)) ?_
  try simp only [Act.put, List.getElem_toArray, List.getElem_cons_succ, List.getElem_cons_zero, List.setIfInBounds_toArray, List.set_cons_zero, List.set_cons_succ]
  refine wpAnyG_take (oi := _) (v := _) (fun _ _ hS_ hb_ => ⟨hS_.1.gr hb_, hS_.2.gr hb_⟩) (i := 9) rfl (by kernel_rfl) (fun _ _ _ h => h) (pureG (by rfl) (by intro w; go_simp; first | done | with_reducible rfl)) ?_
  try simp only [Act.put, List.getElem_toArray, List.getElem_cons_succ, List.getElem_cons_zero, List.setIfInBounds_toArray, List.set_cons_zero, List.set_cons_succ]
  refine wpAnyG_run (i := 10) (v := .slice xA.a xA.n xA.c) (by kernel_rfl) rfl (by rfl) (by intro w_ hS_; go_simp; first | done | with_reducible rfl) ?_
  try simp only [Act.put, List.getElem_toArray, List.getElem_cons_succ, List.getElem_cons_zero, List.setIfInBounds_toArray, List.set_cons_zero, List.set_cons_succ]
  refine wpAnyG_run (i := 11) (v := .int .i64 E) (by kernel_rfl) rfl (by rfl) (by intro w_ hS_; go_simp; first | done | with_reducible rfl) ?_
  try simp only [Act.put, List.getElem_toArray, List.getElem_cons_succ, List.getElem_cons_zero, List.setIfInBounds_toArray, List.set_cons_zero, List.set_cons_succ]
  refine wpAnyG_done (by kernel_rfl) (fun W3 hW9 => ?_) _
  have hG13 : Gr W1 W3 := Gr.trans hb2 hW9
  have HG13 := Lib.hid hG13
  have HGB := Lib.hid hg1
  have HOKA := Lib.hid (hokA.below hW9)
  have HLA := Lib.hid hlA
  have HFRA := Lib.hid hfrA
  have HXB := Lib.hid ((hS1.1.gr hb2).gr hW9)
  have HPB := Lib.hid ((hS1.2.gr hb2).gr hW9)
  have HAB := Lib.hid (gr_bel (gr_bel HA.out hG01) hG13)
  have HNB := Lib.hid hnb
  clear hW1 hS1 hG01 hg1 hnb hfc hlA hokA hfrA hb2 hW9 hG13
  go_upto_region 17 with (fail)
  refine wp_region_G (fun w_ => Blk w_ w.heap.size 44 [.int .i64 2, .int .i64 n, .int .i64 m, .slice A k c, .bool raw, .bool d, .int .u64 (fr : Nat), .int .u64 (sz : Nat)] ∧ Blk w_ s.p 39 [.pointer (some ⟨s.f, 0, none⟩), .pointer (some ⟨s.r, 0, none⟩), .slice a2 s.ans.length c2, .slice a3 s.ans.length c3]) 11 (by kernel_rfl) ⟨HXB.out.drew, HPB.out.drew⟩ ?_
  refine wpAnyG_take (oi := _) (v := _) (fun _ _ hS_ hb_ => ⟨hS_.1.gr hb_, hS_.2.gr hb_⟩) (i := 0) rfl (by kernel_rfl) (fun _ _ _ h => h) (pureG (by rfl) (by intro w; go_simp; first | done | with_reducible rfl)) ?_
  try simp only [Act.put, List.getElem_toArray, List.getElem_cons_succ, List.getElem_cons_zero, List.setIfInBounds_toArray, List.set_cons_zero, List.set_cons_succ]
  refine wpAnyG_take (oi := _) (v := _) (fun _ _ hS_ hb_ => ⟨hS_.1.gr hb_, hS_.2.gr hb_⟩) (i := 1) rfl (by kernel_rfl) (fun _ _ _ h => h) (pureG (by rfl) (by intro w; go_simp; first | done | with_reducible rfl)) ?_
  try simp only [Act.put, List.getElem_toArray, List.getElem_cons_succ, List.getElem_cons_zero, List.setIfInBounds_toArray, List.set_cons_zero, List.set_cons_succ]
  refine wpAnyG_take (oi := _) (v := _) (fun _ _ hS_ hb_ => ⟨hS_.1.gr hb_, hS_.2.gr hb_⟩) (i := 2) rfl (by kernel_rfl) (fun _ _ _ h => h) (pureG (by rfl) (by intro w; go_simp; first | done | with_reducible rfl)) ?_
  try simp only [Act.put, List.getElem_toArray, List.getElem_cons_succ, List.getElem_cons_zero, List.setIfInBounds_toArray, List.set_cons_zero, List.set_cons_succ]
  refine wpAnyG_take (oi := _) (v := _) (fun _ _ hS_ hb_ => ⟨hS_.1.gr hb_, hS_.2.gr hb_⟩) (i := 3) rfl (by kernel_rfl) (fun _ _ _ h => h) (worldG (by rfl) (by intro w_ hS_; have q0 := hS_.2.cell 1; go_simp; first | done | with_reducible rfl)) ?_
  try simp only [Act.put, List.getElem_toArray, List.getElem_cons_succ, List.getElem_cons_zero, List.setIfInBounds_toArray, List.set_cons_zero, List.set_cons_succ]
  refine wpAnyG_take (oi := _) (v := _) (fun _ _ hS_ hb_ => ⟨hS_.1.gr hb_, hS_.2.gr hb_⟩) (i := 4) rfl (by kernel_rfl) (fun _ _ _ h => h) (pureG (by rfl) (by intro w; go_simp; first | done | with_reducible rfl)) ?_
  try simp only [Act.put, List.getElem_toArray, List.getElem_cons_succ, List.getElem_cons_zero, List.setIfInBounds_toArray, List.set_cons_zero, List.set_cons_succ]
  refine wpAnyG_take (oi := _) (v := _) (fun _ _ hS_ hb_ => ⟨hS_.1.gr hb_, hS_.2.gr hb_⟩) (i := 5) rfl (by kernel_rfl) (fun _ _ _ h => h) (worldG (by rfl) (by intro w_ hS_; have q0 := hS_.1.cell 1; go_simp; first | done | with_reducible rfl)) ?_
  try simp only [Act.put, List.getElem_toArray, List.getElem_cons_succ, List.getElem_cons_zero, List.setIfInBounds_toArray, List.set_cons_zero, List.set_cons_succ]
  refine wpAnyG_only (i := 6) (by kernel_rfl) (fun W4 hW4 hS4 => ?_)
  have hG34 : Gr W3 W4 := (Gr.drew W3).trans hW4
  have hg4 := (HGB.out.below HG13.out).below hG34
  have hnb := HNB.out
  have hrc := rread_any base s.r s.N s.cut s.wr n s.on s.dn s.bs W4 hg4.rf
  rw [HE.out] at hrc
  refine wpOp_callE (i := 6) rfl (by rfl) rfl Try.func32 (by kernel_rfl) (by kernel_rfl) #[.pointer (some ⟨s.r, 0, none⟩), .int .i64 n] (by simp [Act.eval]) (hrc.mono ?_)
  rintro e W5 ⟨xB, rfl, hlB, hokB, hfrB, hb5⟩
  refine ⟨_, rfl, .inr ⟨hS4.1.gr hb5, hS4.2.gr hb5⟩, ?_⟩
  try simp only [Act.put, List.getElem_toArray, List.getElem_cons_succ, List.getElem_cons_zero, List.setIfInBounds_toArray, List.set_cons_zero, List.set_cons_succ]
  refine wpAnyG_run (i := 7) (v := .tuple #[.slice xB.a xB.n xB.c, .int .i64 E]) (by kernel_rfl) rfl (by rfl) (by intro w_ hS_; go_simp; first | done | with_reducible rfl) ?_
  try simp only [Act.put, List.getElem_toArray, List.getElem_cons_succ, List.getElem_cons_zero, List.setIfInBounds_toArray, List.set_cons_zero, List.set_cons_succ]
  refine wpAnyG_take (oi := _) (v := _) (fun _ _ hS_ hb_ => ⟨hS_.1.gr hb_, hS_.2.gr hb_⟩) (i := 8) rfl (by kernel_rfl) (fun _ _ _ h => h) (pureG (by rfl) (by intro w; go_simp; first | done | with_reducible rfl)) ?_
  try simp only [Act.put, List.getElem_toArray, List.getElem_cons_succ, List.getElem_cons_zero, List.setIfInBounds_toArray, List.set_cons_zero, List.set_cons_succ]
  refine wpAnyG_take (oi := _) (v := _) (fun _ _ hS_ hb_ => ⟨hS_.1.gr hb_, hS_.2.gr hb_⟩) (i := 9) rfl (by kernel_rfl) (fun _ _ _ h => h) (pureG (by rfl) (by intro w; go_simp; first | done | with_reducible rfl)) ?_
  try simp only [Act.put, List.getElem_toArray, List.getElem_cons_succ, List.getElem_cons_zero, List.setIfInBounds_toArray, List.set_cons_zero, List.set_cons_succ]
  refine wpAnyG_run (i := 10) (v := .slice xB.a xB.n xB.c) (by kernel_rfl) rfl (by rfl) (by intro w_ hS_; go_simp; first | done | with_reducible rfl) ?_
  try simp only [Act.put, List.getElem_toArray, List.getElem_cons_succ, List.getElem_cons_zero, List.setIfInBounds_toArray, List.set_cons_zero, List.set_cons_succ]
  refine wpAnyG_run (i := 11) (v := .int .i64 E) (by kernel_rfl) rfl (by rfl) (by intro w_ hS_; go_simp; first | done | with_reducible rfl) ?_
  try simp only [Act.put, List.getElem_toArray, List.getElem_cons_succ, List.getElem_cons_zero, List.setIfInBounds_toArray, List.set_cons_zero, List.set_cons_succ]
  refine wpAnyG_done (by kernel_rfl) (fun W6 hW9 => ?_) _
  have hG36 : Gr W3 W6 := Gr.trans (Gr.trans hG34 hb5) hW9
  have hpl := put_like HGB.out (HG13.out.trans hG36) (HOKA.out.below hG36) (hokB.below hW9) (HLA.out.trans hlB.symm) HFRA.out hi
  have HPL := Lib.hid hpl
  have HBE := Lib.hid (gr_bel HAB.out hG36)
  clear hW4 hS4 hG34 hg4 hnb hrc hlB hokB hfrB hb5 hW9 hG36 hpl
  go_wp2_with (go_at_call 33; refine HPL.out.mono ?_; rintro e W7 ⟨rfl, hs7⟩)
  go_ret
  exact step_end HG.out HBE.out rfl hs7
end Go.Proofs.Ytlgpaglkhgomiaa
