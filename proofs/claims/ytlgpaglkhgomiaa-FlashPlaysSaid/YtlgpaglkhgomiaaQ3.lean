/- The pair, a step: a cut. Condition: sizes. -/
import Derived.Test.YtlgpaglkhgomiaaQ4
namespace Go.Proofs.Ytlgpaglkhgomiaa
open Go.RowKit
set_option linter.unusedVariables false
set_option maxRecDepth 100000
set_option linter.unusedSimpArgs false
def cutOut (on : Bool) (cut : Int) (dn : Bool) (n : Int) (d : Bool) : Int × Int × Bool := if on = false then (143, cut, dn) else if n < 0 then (1, cut, dn) else (0, n, d)
theorem fcut_any (f mb : Nat) (N cut wr n : Int) (on dn d : Bool) (w : World) (h : FlB w f mb N on cut dn wr) :
    Calls Try.prog 20 #[.pointer (some ⟨f, 0, none⟩), .int .i64 n, .bool d] w fun e w' => e = .returned (.int .i64 (cutOut on cut dn n d).1) ∧ FlB w' f mb N on (cutOut on cut dn n d).2.1 (cutOut on cut dn n d).2.2 wr ∧ w.grownBy w' (some f) := by
  unfold cutOut
  cases on with
  | false =>
    rw [if_pos rfl]
    refine (cut_off f mb N cut wr n d dn w h).mono ?_
    rintro e w' ⟨rfl, rfl⟩
    exact ⟨rfl, h, grown_refl _ _⟩
  | true =>
    rw [if_neg (by simp)]
    by_cases q : n < 0
    · rw [if_pos q]
      refine (cut_neg f mb N cut wr n d dn w h q).mono ?_
      rintro e w' ⟨rfl, rfl⟩
      exact ⟨rfl, h, grown_refl _ _⟩
    · rw [if_neg q]
      refine (cut_ok f mb N cut wr n d dn w h (by omega)).mono ?_
      rintro e w' ⟨rfl, h1, h2⟩
      exact ⟨rfl, h1, h2⟩
theorem rcut_any (base r : Nat) (N left many n : Int) (on dn d : Bool) (bs : List BlkR) (w : World) (h : RfAt w base r N (!on) left dn many bs) :
    Calls Try.prog 34 #[.pointer (some ⟨r, 0, none⟩), .int .i64 n, .bool d] w fun e w' => e = .returned (.int .i64 (cutOut on left dn n d).1) ∧ RfAt w' base r N (!on) (cutOut on left dn n d).2.1 (cutOut on left dn n d).2.2 many bs ∧ w.grownBy w' (some r) := by
  unfold cutOut
  cases on with
  | false =>
    rw [if_pos rfl]
    refine (rcut_off base r N left many n dn d bs w h).mono ?_
    rintro e w' ⟨rfl, rfl⟩
    exact ⟨rfl, h, grown_refl _ _⟩
  | true =>
    rw [if_neg (by simp)]
    by_cases q : n < 0
    · rw [if_pos q]
      refine (rcut_neg base r N left many n dn d bs w h q).mono ?_
      rintro e w' ⟨rfl, rfl⟩
      exact ⟨rfl, h, grown_refl _ _⟩
    · rw [if_neg q]
      refine (rcut_ok base r N left many n dn d bs w h (by omega)).mono ?_
      rintro e w' ⟨rfl, h1, h2⟩
      exact ⟨rfl, h1, h2⟩
theorem cutOut_cut {on dn d : Bool} {cut n : Int} (h : 0 ≤ cut ∧ cut ≤ 9223372036854775807) (hn : I64 n) : 0 ≤ (cutOut on cut dn n d).2.1 ∧ (cutOut on cut dn n d).2.1 ≤ 9223372036854775807 := by
  unfold cutOut
  obtain ⟨h1, h2⟩ := hn
  split
  · exact h
  · split
    · exact h
    · exact ⟨by show 0 ≤ n; omega, by show n ≤ _; omega⟩
theorem step_end2 {base i : Nat} {s : SR} {w w1 w3 w9 : World} {e : Ending} (h : Good w base i s) (hb : Below w.heap.size w w1) (he : e = .returned (.bool true)) (hg : ∃ s', Good w3 base (i + 1) s' ∧ s'.f = s.f ∧ s'.r = s.r ∧ s'.p = s.p ∧ Below base w1 w3) (h9 : Gr w3 w9) : StepOk base i s w e w9 := by
  obtain ⟨s', h1, h2, h3, h4, h5⟩ := hg
  exact ⟨he, s', h1.below h9, h2, h3, h4, ((h.bel hb).trans h5).trans (h1.bel h9)⟩
theorem S_f {w1 w2 : World} {base i b : Nat} {s : SR} {cs ds : List Value} (hG : Good w1 base i s) (hg : w1.grownBy w2 (some s.f)) (h : Blk w1 b 44 cs ∧ Blk w1 s.p 39 ds) : Blk w2 b 44 cs ∧ Blk w2 s.p 39 ds :=
  ⟨h.1.grown hg (fun e => by injection e with e; exact blk_ne h.1 hG.fl (by decide) e), h.2.grown hg (fun e => by injection e with e; exact blk_ne h.2 hG.fl (by decide) e)⟩
theorem S_r {w1 w2 : World} {base r b p : Nat} {N left many : Int} {off dn : Bool} {bs : List BlkR} {cs ds : List Value} (hG : RfAt w1 base r N off left dn many bs) (hg : w1.grownBy w2 (some r)) (h : Blk w1 b 44 cs ∧ Blk w1 p 39 ds) : Blk w2 b 44 cs ∧ Blk w2 p 39 ds := by
  obtain ⟨csr, hr⟩ := hG.rblk
  exact ⟨h.1.grown hg (fun e => by injection e with e; exact blk_ne h.1 hr (by decide) e), h.2.grown hg (fun e => by injection e with e; exact blk_ne h.2 hr (by decide) e)⟩
set_option maxHeartbeats 12800000 in
theorem step_3 (n m : Int) (A : Option Addr) (k c : Nat) (l : List Nat) (raw d : Bool) (fr sz : Nat) (base i : Nat) (s : SR) (w : World) (h : Good w base i s) (hi : i ≤ 1000) (hb : BIn w A k c l) (hn : I64 n) (hm : I64 m) (hfr : fr < 18446744073709551616) (hsz : sz < 18446744073709551616) :
    Calls Try.prog 11 #[.pointer (some ⟨s.p, 0, none⟩), .agg #[.int .i64 3, .int .i64 n, .int .i64 m, .slice A k c, .bool raw, .bool d, .int .u64 (fr : Nat), .int .u64 (sz : Nat)]] w (StepOk base i s w) := by
  have ha : Below w.heap.size w (w.alloc (.cells #[.int .i64 3, .int .i64 n, .int .i64 m, .slice A k c, .bool raw, .bool d, .int .u64 (fr : Nat), .int .u64 (sz : Nat)] 44)) := (Below.refl _ _).alloc (Nat.le_refl _) _
  have hg1 := h.below ha
  have HX := Lib.hid (Blk.new w 44 [.int .i64 3, .int .i64 n, .int .i64 m, .slice A k c, .bool raw, .bool d, .int .u64 (fr : Nat), .int .u64 (sz : Nat)])
  have HA := Lib.hid ha
  have HG := Lib.hid h
  have HG1 := Lib.hid hg1
  have HB1 := Lib.hid (hb.below ha)
  obtain ⟨a2, c2, a3, c3, hpb, hq2, hq3⟩ := hg1.pr
  have HP := Lib.hid hpb
  clear hpb hq2 hq3 ha h hg1 hb
  go_enter Try.func11, Try.ntmps11
  go_upto_region 20 with (fail)
  obtain ⟨w1, hw1⟩ : ∃ w1, w.alloc (.cells #[.int .i64 3, .int .i64 n, .int .i64 m, .slice A k c, .bool raw, .bool d, .int .u64 (fr : Nat), .int .u64 (sz : Nat)] 44) = w1 := ⟨_, rfl⟩
  try rw [hw1]
  rw [hw1] at HX HA HG1 HB1 HP
  clear hw1
  obtain ⟨o, ho⟩ : ∃ o, cutOut s.on s.cut s.dn n d = o := ⟨_, rfl⟩
  have HO := Lib.hid ho
  clear ho
  refine wp_region_G (fun w_ => Blk w_ w.heap.size 44 [.int .i64 3, .int .i64 n, .int .i64 m, .slice A k c, .bool raw, .bool d, .int .u64 (fr : Nat), .int .u64 (sz : Nat)] ∧ Blk w_ s.p 39 [.pointer (some ⟨s.f, 0, none⟩), .pointer (some ⟨s.r, 0, none⟩), .slice a2 s.ans.length c2, .slice a3 s.ans.length c3]) 19 (by kernel_rfl) ⟨HX.out.drew, HP.out.drew⟩ ?_
  refine wpAnyG_take (oi := _) (v := _) (fun _ _ hS_ hb_ => ⟨hS_.1.gr hb_, hS_.2.gr hb_⟩) (i := 0) rfl (by kernel_rfl) (fun _ _ _ h => h) (pureG (by rfl) (by intro w; go_simp; first | done | with_reducible rfl)) ?_
  try simp only [Act.put, List.getElem_toArray, List.getElem_cons_succ, List.getElem_cons_zero, List.setIfInBounds_toArray, List.set_cons_zero, List.set_cons_succ]
  refine wpAnyG_take (oi := _) (v := _) (fun _ _ hS_ hb_ => ⟨hS_.1.gr hb_, hS_.2.gr hb_⟩) (i := 1) rfl (by kernel_rfl) (fun _ _ _ h => h) (pureG (by rfl) (by intro w; go_simp; first | done | with_reducible rfl)) ?_
  try simp only [Act.put, List.getElem_toArray, List.getElem_cons_succ, List.getElem_cons_zero, List.setIfInBounds_toArray, List.set_cons_zero, List.set_cons_succ]
  refine wpAnyG_take (oi := _) (v := _) (fun _ _ hS_ hb_ => ⟨hS_.1.gr hb_, hS_.2.gr hb_⟩) (i := 2) rfl (by kernel_rfl) (fun _ _ _ h => h) (pureG (by rfl) (by intro w; go_simp; first | done | with_reducible rfl)) ?_
  try simp only [Act.put, List.getElem_toArray, List.getElem_cons_succ, List.getElem_cons_zero, List.setIfInBounds_toArray, List.set_cons_zero, List.set_cons_succ]
  refine wpAnyG_take (oi := _) (v := _) (fun _ _ hS_ hb_ => ⟨hS_.1.gr hb_, hS_.2.gr hb_⟩) (i := 3) rfl (by kernel_rfl) (fun _ _ _ h => h) (worldG (by rfl) (by intro w_ hS_; have q0 := hS_.2.cell 0; go_simp; first | done | with_reducible rfl)) ?_
  try simp only [Act.put, List.getElem_toArray, List.getElem_cons_succ, List.getElem_cons_zero, List.setIfInBounds_toArray, List.set_cons_zero, List.set_cons_succ]
  refine wpAnyG_take (oi := _) (v := _) (fun _ _ hS_ hb_ => ⟨hS_.1.gr hb_, hS_.2.gr hb_⟩) (i := 4) rfl (by kernel_rfl) (fun _ _ _ h => h) (pureG (by rfl) (by intro w; go_simp; first | done | with_reducible rfl)) ?_
  try simp only [Act.put, List.getElem_toArray, List.getElem_cons_succ, List.getElem_cons_zero, List.setIfInBounds_toArray, List.set_cons_zero, List.set_cons_succ]
  refine wpAnyG_take (oi := _) (v := _) (fun _ _ hS_ hb_ => ⟨hS_.1.gr hb_, hS_.2.gr hb_⟩) (i := 5) rfl (by kernel_rfl) (fun _ _ _ h => h) (worldG (by rfl) (by intro w_ hS_; have q0 := hS_.1.cell 1; go_simp; first | done | with_reducible rfl)) ?_
  try simp only [Act.put, List.getElem_toArray, List.getElem_cons_succ, List.getElem_cons_zero, List.setIfInBounds_toArray, List.set_cons_zero, List.set_cons_succ]
  refine wpAnyG_take (oi := _) (v := _) (fun _ _ hS_ hb_ => ⟨hS_.1.gr hb_, hS_.2.gr hb_⟩) (i := 6) rfl (by kernel_rfl) (fun _ _ _ h => h) (pureG (by rfl) (by intro w; go_simp; first | done | with_reducible rfl)) ?_
  try simp only [Act.put, List.getElem_toArray, List.getElem_cons_succ, List.getElem_cons_zero, List.setIfInBounds_toArray, List.set_cons_zero, List.set_cons_succ]
  refine wpAnyG_take (oi := _) (v := _) (fun _ _ hS_ hb_ => ⟨hS_.1.gr hb_, hS_.2.gr hb_⟩) (i := 7) rfl (by kernel_rfl) (fun _ _ _ h => h) (worldG (by rfl) (by intro w_ hS_; have q0 := hS_.1.cell 5; go_simp; first | done | with_reducible rfl)) ?_
  try simp only [Act.put, List.getElem_toArray, List.getElem_cons_succ, List.getElem_cons_zero, List.setIfInBounds_toArray, List.set_cons_zero, List.set_cons_succ]
  refine wpAnyG_take (oi := _) (v := _) (fun _ _ hS_ hb_ => ⟨hS_.1.gr hb_, hS_.2.gr hb_⟩) (i := 9) rfl (by kernel_rfl) (fun _ _ _ h => h) (pureG (by rfl) (by intro w; go_simp; first | done | with_reducible rfl)) ?_
  try simp only [Act.put, List.getElem_toArray, List.getElem_cons_succ, List.getElem_cons_zero, List.setIfInBounds_toArray, List.set_cons_zero, List.set_cons_succ]
  refine wpAnyG_take (oi := _) (v := _) (fun _ _ hS_ hb_ => ⟨hS_.1.gr hb_, hS_.2.gr hb_⟩) (i := 10) rfl (by kernel_rfl) (fun _ _ _ h => h) (pureG (by rfl) (by intro w; go_simp; first | done | with_reducible rfl)) ?_
  try simp only [Act.put, List.getElem_toArray, List.getElem_cons_succ, List.getElem_cons_zero, List.setIfInBounds_toArray, List.set_cons_zero, List.set_cons_succ]
  refine wpAnyG_take (oi := _) (v := _) (fun _ _ hS_ hb_ => ⟨hS_.1.gr hb_, hS_.2.gr hb_⟩) (i := 11) rfl (by kernel_rfl) (fun _ _ _ h => h) (pureG (by rfl) (by intro w; go_simp; first | done | with_reducible rfl)) ?_
  try simp only [Act.put, List.getElem_toArray, List.getElem_cons_succ, List.getElem_cons_zero, List.setIfInBounds_toArray, List.set_cons_zero, List.set_cons_succ]
  refine wpAnyG_take (oi := _) (v := _) (fun _ _ hS_ hb_ => ⟨hS_.1.gr hb_, hS_.2.gr hb_⟩) (i := 12) rfl (by kernel_rfl) (fun _ _ _ h => h) (worldG (by rfl) (by intro w_ hS_; have q0 := hS_.2.cell 1; go_simp; first | done | with_reducible rfl)) ?_
  try simp only [Act.put, List.getElem_toArray, List.getElem_cons_succ, List.getElem_cons_zero, List.setIfInBounds_toArray, List.set_cons_zero, List.set_cons_succ]
  refine wpAnyG_take (oi := _) (v := _) (fun _ _ hS_ hb_ => ⟨hS_.1.gr hb_, hS_.2.gr hb_⟩) (i := 13) rfl (by kernel_rfl) (fun _ _ _ h => h) (pureG (by rfl) (by intro w; go_simp; first | done | with_reducible rfl)) ?_
  try simp only [Act.put, List.getElem_toArray, List.getElem_cons_succ, List.getElem_cons_zero, List.setIfInBounds_toArray, List.set_cons_zero, List.set_cons_succ]
  refine wpAnyG_take (oi := _) (v := _) (fun _ _ hS_ hb_ => ⟨hS_.1.gr hb_, hS_.2.gr hb_⟩) (i := 14) rfl (by kernel_rfl) (fun _ _ _ h => h) (worldG (by rfl) (by intro w_ hS_; have q0 := hS_.1.cell 1; go_simp; first | done | with_reducible rfl)) ?_
  try simp only [Act.put, List.getElem_toArray, List.getElem_cons_succ, List.getElem_cons_zero, List.setIfInBounds_toArray, List.set_cons_zero, List.set_cons_succ]
  refine wpAnyG_take (oi := _) (v := _) (fun _ _ hS_ hb_ => ⟨hS_.1.gr hb_, hS_.2.gr hb_⟩) (i := 15) rfl (by kernel_rfl) (fun _ _ _ h => h) (pureG (by rfl) (by intro w; go_simp; first | done | with_reducible rfl)) ?_
  try simp only [Act.put, List.getElem_toArray, List.getElem_cons_succ, List.getElem_cons_zero, List.setIfInBounds_toArray, List.set_cons_zero, List.set_cons_succ]
  refine wpAnyG_take (oi := _) (v := _) (fun _ _ hS_ hb_ => ⟨hS_.1.gr hb_, hS_.2.gr hb_⟩) (i := 16) rfl (by kernel_rfl) (fun _ _ _ h => h) (worldG (by rfl) (by intro w_ hS_; have q0 := hS_.1.cell 5; go_simp; first | done | with_reducible rfl)) ?_
  try simp only [Act.put, List.getElem_toArray, List.getElem_cons_succ, List.getElem_cons_zero, List.setIfInBounds_toArray, List.set_cons_zero, List.set_cons_succ]
  refine wpAnyG_only (i := 8) (by kernel_rfl) (fun W1 hW1 hS1 => ?_)
  have hG01 : Gr w1 W1 := (Gr.drew w1).trans hW1
  have hgW := HG1.out.below hG01
  have hfc := fcut_any s.f s.mb s.N s.cut s.wr n s.on s.dn d W1 hgW.fl
  rw [HO.out] at hfc
  refine wpOp_callE (i := 8) rfl (by rfl) rfl Try.func20 (by kernel_rfl) (by kernel_rfl) #[.pointer (some ⟨s.f, 0, none⟩), .int .i64 n, .bool d] (by simp [Act.eval]) (hfc.mono ?_)
  rintro e W2 ⟨rfl, hf2, hg2⟩
  refine ⟨_, rfl, .inr (S_f hgW hg2 hS1), ?_⟩
  try simp only [Act.put, List.getElem_toArray, List.getElem_cons_succ, List.getElem_cons_zero, List.setIfInBounds_toArray, List.set_cons_zero, List.set_cons_succ]
  refine wpAnyG_only (i := 17) (by kernel_rfl) (fun W3 hW3 hS3 => ?_)
  have hr3 := (hgW.rf_f hg2).below hW3
  have hrc := rcut_any base s.r s.N s.cut s.wr n s.on s.dn d s.bs W3 hr3
  rw [HO.out] at hrc
  refine wpOp_callE (i := 17) rfl (by rfl) rfl Try.func34 (by kernel_rfl) (by kernel_rfl) #[.pointer (some ⟨s.r, 0, none⟩), .int .i64 n, .bool d] (by simp [Act.eval]) (hrc.mono ?_)
  rintro e W4 ⟨rfl, hr4, hg4⟩
  refine ⟨_, rfl, .inr (S_r hr3 hg4 hS3), ?_⟩
  try simp only [Act.put, List.getElem_toArray, List.getElem_cons_succ, List.getElem_cons_zero, List.setIfInBounds_toArray, List.set_cons_zero, List.set_cons_succ]
  refine wpAnyG_run (i := 18) (v := .bool true) (by kernel_rfl) rfl (by rfl) (by intro w_ hS_; go_simp; first | done | with_reducible rfl) ?_
  try simp only [Act.put, List.getElem_toArray, List.getElem_cons_succ, List.getElem_cons_zero, List.setIfInBounds_toArray, List.set_cons_zero, List.set_cons_succ]
  refine wpAnyG_run (i := 19) (v := .bool true) (by kernel_rfl) rfl (by rfl) (by intro w_ hS_; go_simp; first | done | with_reducible rfl) ?_
  try simp only [Act.put, List.getElem_toArray, List.getElem_cons_succ, List.getElem_cons_zero, List.setIfInBounds_toArray, List.set_cons_zero, List.set_cons_succ]
  refine wpAnyG_done (by kernel_rfl) (fun W9 hW9 => ?_) _
  have hcc := cutOut_cut (on := s.on) (dn := s.dn) (d := d) (cut := s.cut) ⟨HG.out.nb.2.2.1, HG.out.nb.2.2.2.1⟩ hn
  rw [HO.out] at hcc
  have HE := Lib.hid (step_end2 HG.out (HA.out.trans (hG01.mono HA.out.size)) rfl (good_turn hgW hf2 hg2 hr4 (grown_trans (grown_below hW3 _) hg4) hcc) hW9)
  clear hfc hrc hf2 hg2 hr3 hr4 hg4 hW9 hgW hS1 hS3
  go_wp2_with fail
  go_ret
  exact HE.out
end Go.Proofs.Ytlgpaglkhgomiaa
