/- The pair, a step: a write. Condition: sizes. -/
import Derived.Test.YtlgpaglkhgomiaaQc
namespace Go.Proofs.Ytlgpaglkhgomiaa
open Go.RowKit
set_option linter.unusedVariables false
set_option maxRecDepth 100000
set_option linter.unusedSimpArgs false
theorem FWr.gr {f mb K : Nat} {N : Int} {dn : Bool} {wr n : Int} {hs : Int → Bool} {c : Int → List Nat} {l : List Nat} {o : Int × Bool × Int × Bool} {w w2 w3 : World} {e : Ending} (h : FWr f mb K N dn wr n hs c l o w e w2) (hb : Gr w2 w3) : FWr f mb K N dn wr n hs c l o w e w3 :=
  ⟨h.1, h.2.1.gr hb, h.2.2.1.gr hb, h.2.2.2.trans (Fr.below hb : Fr w2 w3 (fun _ => False)) (fun _ _ x => x.elim)⟩
/-- the block of a list of bytes -/
def rowB (a : Option Addr) (k : Nat) (j : Nat) : Prop := 0 < k ∧ ∃ q, a = some q ∧ q.block = j
/-- the copy that was written from is overwritten -/
theorem good_over {w w' : World} {base i k gm : Nat} {s s' : SR} {a : Option Addr} {w0 w3 : World} (h : Good w base i s') (hf : Fr w w' (rowB a k)) (hu : ∀ j, rowB a k j → ∃ cs, Blk w j 5 cs) (hlo : ∀ j, rowB a k j → w0.heap.size ≤ j ∧ j < w3.heap.size) (h0 : Good w0 base gm s) (hans : s'.ans = s.ans) (hbs : ∀ b ∈ s'.bs, b ∈ s.bs ∨ ∃ g, w3.heap.size ≤ g ∧ b.b = some g) : Good w' base i s' := by
  refine h.fr hf (fun j t cs hb ht _ hj => ?_) (fun hj => ?_) (fun b hb j hj hr => ?_) (fun x hx j hj hr => ?_)
  · obtain ⟨ds, hd⟩ := hu j hj
    exact blk_ne hb hd ht rfl
  · obtain ⟨ds, hd⟩ := hu _ hj
    exact blk_map hd h.mp rfl
  · obtain ⟨h1, h2⟩ := hlo j hr
    rcases hbs b hb with hb | ⟨g, hg, hbg⟩
    · exact (h0.fresh h1).2.1 b hb hj
    · rw [hj] at hbg
      injection hbg with hbg
      omega
  · obtain ⟨h1, h2⟩ := hlo j hr
    rw [hans] at hx
    exact (h0.fresh h1).1 x hx hj
theorem frB {w w' : World} {base : Nat} {F : Nat → Prop} (hf : Fr w w' F) (hF : ∀ j, F j → base ≤ j) (hb : base ≤ w.heap.size) : Below base w w' :=
  ⟨hf.1, hf.2.1, hf.2.2.1, hf.size, fun j hj => hf.2.2.2.2 j (Nat.lt_of_lt_of_le hj hb) (fun e => by have := hF j e; omega)⟩
set_option maxHeartbeats 12800000 in
theorem step_1 (n m : Int) (A : Option Addr) (k c : Nat) (l : List Nat) (raw d : Bool) (fr sz : Nat) (base i : Nat) (s : SR) (w : World) (h : Good w base i s) (hi : i ≤ 1000) (hb : BIn w A k c l) (hn : I64 n) (hm : I64 m) (hfr : fr < 18446744073709551616) (hsz : sz < 18446744073709551616) (hlow : ∀ q, A = some q → 0 < k → q.block < base) :
    Calls Try.prog 11 #[.pointer (some ⟨s.p, 0, none⟩), .agg #[.int .i64 1, .int .i64 n, .int .i64 m, .slice A k c, .bool raw, .bool d, .int .u64 (fr : Nat), .int .u64 (sz : Nat)]] w (StepOk base i s w) := by
  have ha : Below w.heap.size w (w.alloc (.cells #[.int .i64 1, .int .i64 n, .int .i64 m, .slice A k c, .bool raw, .bool d, .int .u64 (fr : Nat), .int .u64 (sz : Nat)] 44)) := (Below.refl _ _).alloc (Nat.le_refl _) _
  have hg1 := h.below ha
  have HX := Lib.hid (Blk.new w 44 [.int .i64 1, .int .i64 n, .int .i64 m, .slice A k c, .bool raw, .bool d, .int .u64 (fr : Nat), .int .u64 (sz : Nat)])
  have HA := Lib.hid ha
  have HG := Lib.hid h
  have HG1 := Lib.hid hg1
  have HB1 := Lib.hid (hb.below ha)
  obtain ⟨a2, c2, a3, c3, hpb, hq2, hq3⟩ := hg1.pr
  have HP := Lib.hid hpb
  clear hpb hq2 hq3 ha h hg1 hb
  have hg1 := HG1.out
  cases raw with
  | true =>
    obtain ⟨A5, hA5⟩ : ∃ A5, A = A5 := ⟨_, rfl⟩
    obtain ⟨k5, hk5'⟩ : ∃ k5, k = k5 := ⟨_, rfl⟩
    obtain ⟨c5, hc5⟩ : ∃ c5, c = c5 := ⟨_, rfl⟩
    obtain ⟨l5, hl5⟩ : ∃ l5, l = l5 := ⟨_, rfl⟩
    subst hA5 hk5' hc5 hl5
    have HNE := Lib.hid (show ∀ q, A = some q → 0 < k → q.block ≠ s.f ∧ q.block ≠ s.mb ∧ q.block ≠ s.r from fun q hq hk => by
      have := hlow q hq hk
      have := hg1.lo
      omega)
    clear hg1
    go_enter Try.func11, Try.ntmps11
    go_upto_if 27 with (fail)
    obtain ⟨W0, hW0⟩ : ∃ W0, w.alloc (.cells #[.int .i64 1, .int .i64 n, .int .i64 m, .slice A k c, .bool true, .bool d, .int .u64 (fr : Nat), .int .u64 (sz : Nat)] 44) = W0 := ⟨_, rfl⟩
    try rw [hW0]
    rw [hW0] at HX HA HG1 HB1 HP
    clear hW0
    have HB5 := HB1
    have HG0 := HG1
    have HX0 := HX
    have HP0 := HP
    have HA0 := HA
    have HZR := Lib.hid (zero_row (W0))
    have haa := (Below.refl (W0).heap.size (W0)).alloc (Nat.le_refl _) (.cells #[] 5)
    have HBW := Lib.hid (HB5.out.below haa)
    have hk5 := HB5.out.2.2.2.1
    have hszA := haa.size
    have HAA := Lib.hid haa
    clear haa
    go_wp2_with (refine wpList_append_bytes _ rfl (.tmp 31) (.tmp 32) rfl (W0).heap.size _ 0 [] rfl HZR.out A k c l rfl HBW.out (by omega) hszA ?_)
    intro vu Wu hou hgu
    replace hou : Wu.ownsRow (W0).heap.size 5 1 vu k (bytesV l) := by simpa using hou
    have hG0u : Gr (W0) Wu := Gr.trans2 HAA.out (grown_new0 hgu (Nat.le_refl _) hszA)
    obtain ⟨a6, c6, rfl, hbu, _⟩ := own_in hou HB5.out.1.2.2.1 hk5
    have hu0 : ∀ j, rowB a6 k j → (W0).heap.size ≤ j ∧ j < Wu.heap.size ∧ ∃ cs, Blk Wu j 5 cs ∧ k ≤ cs.length := fun j ⟨hk, q, hq, hj⟩ => by
      rcases hou.2 with ⟨e, h0⟩ | ⟨g, cap, cur, e, hbg, hg, h1, h2, h3, h4⟩
      · omega
      · injection e with e1 _ _
        rw [hq] at e1
        injection e1 with e1
        subst e1
        subst hj
        exact ⟨hbg, (Array.getElem?_eq_some_iff.1 hg).1, cur.toList, by unfold Blk; simpa using hg, by rw [Array.length_toList, h3]; omega⟩
    have hu0a : 0 < k → ∃ g, a6 = some ⟨g, 0, none⟩ := fun hk => by
      rcases hou.2 with ⟨e, h0⟩ | ⟨g, cap, cur, e, _⟩
      · omega
      · injection e with e1 _ _; exact ⟨g, e1⟩
    have HG5 := HG0
    have HU0 := Lib.hid hu0
    have HU0A := Lib.hid hu0a
    have HBU := Lib.hid hbu
    have HGU := Lib.hid (HG0.out.below hG0u)
    have HXU := Lib.hid (HX0.out.gr hG0u)
    have HPU := Lib.hid (HP0.out.gr hG0u)
    have HAU := Lib.hid (gr_bel HA0.out hG0u)
    have HB5U := Lib.hid (HB5.out.below hG0u)
    have HSU := Lib.hid hG0u.size
    clear hou hgu hG0u hu0 hu0a hbu HZR HBW hszA HAA
    obtain ⟨o, ho⟩ : ∃ o, wrOut s.N s.on s.cut s.dn n k = o := ⟨_, rfl⟩
    have HO := Lib.hid ho
    clear ho
    go_upto_region 7 with (fail)
    refine wp_region_G (fun w_ => Blk w_ w.heap.size 44 [.int .i64 1, .int .i64 n, .int .i64 m, .slice A k c, .bool true, .bool d, .int .u64 (fr : Nat), .int .u64 (sz : Nat)] ∧ Blk w_ s.p 39 [.pointer (some ⟨s.f, 0, none⟩), .pointer (some ⟨s.r, 0, none⟩), .slice a2 s.ans.length c2, .slice a3 s.ans.length c3]) 8 (by kernel_rfl) ⟨HXU.out.drew, HPU.out.drew⟩ ?_
    refine wpAnyG_take (oi := _) (v := _) (fun _ _ hS_ hb_ => ⟨hS_.1.gr hb_, hS_.2.gr hb_⟩) (i := 0) rfl (by kernel_rfl) (fun _ _ _ h => h) (pureG (by rfl) (by intro w; go_simp; first | done | with_reducible rfl)) ?_
    try simp only [Act.put, List.getElem_toArray, List.getElem_cons_succ, List.getElem_cons_zero, List.setIfInBounds_toArray, List.set_cons_zero, List.set_cons_succ]
    refine wpAnyG_take (oi := _) (v := _) (fun _ _ hS_ hb_ => ⟨hS_.1.gr hb_, hS_.2.gr hb_⟩) (i := 1) rfl (by kernel_rfl) (fun _ _ _ h => h) (pureG (by rfl) (by intro w; go_simp; first | done | with_reducible rfl)) ?_
    try simp only [Act.put, List.getElem_toArray, List.getElem_cons_succ, List.getElem_cons_zero, List.setIfInBounds_toArray, List.set_cons_zero, List.set_cons_succ]
    refine wpAnyG_take (oi := _) (v := _) (fun _ _ hS_ hb_ => ⟨hS_.1.gr hb_, hS_.2.gr hb_⟩) (i := 2) rfl (by kernel_rfl) (fun _ _ _ h => h) (pureG (by rfl) (by intro w; go_simp; first | done | with_reducible rfl)) ?_
    try simp only [Act.put, List.getElem_toArray, List.getElem_cons_succ, List.getElem_cons_zero, List.setIfInBounds_toArray, List.set_cons_zero, List.set_cons_succ]
    refine wpAnyG_take (oi := _) (v := _) (fun _ _ hS_ hb_ => ⟨hS_.1.gr hb_, hS_.2.gr hb_⟩) (i := 3) rfl (by kernel_rfl) (fun _ _ _ h => h) (worldG (by rfl) (by intro w_ hS_; have q0 := hS_.2.cell 0; go_simp; first | done | with_reducible rfl)) ?_
    try simp only [Act.put, List.getElem_toArray, List.getElem_cons_succ, List.getElem_cons_zero, List.setIfInBounds_toArray, List.set_cons_zero, List.set_cons_succ]
    refine wpAnyG_take (oi := _) (v := _) (fun _ _ hS_ hb_ => ⟨hS_.1.gr hb_, hS_.2.gr hb_⟩) (i := 4) rfl (by kernel_rfl) (fun _ _ _ h => h) (pureG (by rfl) (by intro w; go_simp; first | done | with_reducible rfl)) ?_
    try simp only [Act.put, List.getElem_toArray, List.getElem_cons_succ, List.getElem_cons_zero, List.setIfInBounds_toArray, List.set_cons_zero, List.set_cons_succ]
    refine wpAnyG_take (oi := _) (v := _) (fun _ _ hS_ hb_ => ⟨hS_.1.gr hb_, hS_.2.gr hb_⟩) (i := 5) rfl (by kernel_rfl) (fun _ _ _ h => h) (worldG (by rfl) (by intro w_ hS_; have q0 := hS_.1.cell 1; go_simp; first | done | with_reducible rfl)) ?_
    try simp only [Act.put, List.getElem_toArray, List.getElem_cons_succ, List.getElem_cons_zero, List.setIfInBounds_toArray, List.set_cons_zero, List.set_cons_succ]
    refine wpAnyG_take (oi := _) (v := _) (fun _ _ hS_ hb_ => ⟨hS_.1.gr hb_, hS_.2.gr hb_⟩) (i := 6) rfl (by kernel_rfl) (fun _ _ _ h => h) (pureG (by rfl) (by intro w; go_simp; first | done | with_reducible rfl)) ?_
    try simp only [Act.put, List.getElem_toArray, List.getElem_cons_succ, List.getElem_cons_zero, List.setIfInBounds_toArray, List.set_cons_zero, List.set_cons_succ]
    refine wpAnyG_only (i := 7) (by kernel_rfl) (fun W1 hW1 hS1 => ?_)
    have hGu1 : Gr Wu W1 := (Gr.drew Wu).trans hW1
    have hg1 := HGU.out.below hGu1
    have hnb := HG.out.nb
    have hfw := fwrite_any s.f s.mb s.K s.N s.cut s.wr n s.on s.dn _ _ a6 k c6 l W1 hg1.fl hg1.mp (HBU.out.below hGu1) (by omega) ⟨hnb.2.2.1, hnb.2.2.2.1⟩ (by omega) (by omega) (fun q hq hk => by
      obtain ⟨_, _, cs, hcs, _⟩ := HU0.out q.block ⟨hk, q, hq, rfl⟩
      exact blk_ne (hcs.gr hGu1) hg1.fl (by decide))
    rw [HO.out] at hfw
    refine wpOp_callE (i := 7) rfl (by rfl) rfl Try.func22 (by kernel_rfl) (by kernel_rfl) #[.pointer (some ⟨s.f, 0, none⟩), .int .i64 n, .slice a6 k c6] (by simp [Act.eval]) (hfw.mono ?_)
    intro e W2 hw2
    obtain rfl := hw2.1
    have hf12 : Fr W1 W2 (fun j => j = s.f ∨ j = s.mb) := hw2.2.2.2
    have hX2 := blk_fr hS1.1 hf12 (fun e => by rcases e with e | e; exact blk_ne hS1.1 hg1.fl (by decide) e; exact blk_map hS1.1 hg1.mp e)
    have hP2 := blk_fr hS1.2 hf12 (fun e => by rcases e with e | e; exact blk_ne hS1.2 hg1.fl (by decide) e; exact blk_map hS1.2 hg1.mp e)
    refine ⟨_, rfl, .inr ⟨hX2, hP2⟩, ?_⟩
    try simp only [Act.put, List.getElem_toArray, List.getElem_cons_succ, List.getElem_cons_zero, List.setIfInBounds_toArray, List.set_cons_zero, List.set_cons_succ]
    refine wpAnyG_run (i := 8) (v := .int .i64 o.1) (by kernel_rfl) rfl (by rfl) (by intro w_ hS_; go_simp; first | done | with_reducible rfl) ?_
    try simp only [Act.put, List.getElem_toArray, List.getElem_cons_succ, List.getElem_cons_zero, List.setIfInBounds_toArray, List.set_cons_zero, List.set_cons_succ]
    refine wpAnyG_done (by kernel_rfl) (fun W3 hW3 => ?_) _
    have HW3 := Lib.hid (hw2.gr hW3)
    have hf13 : Fr W1 W3 (fun j => j = s.f ∨ j = s.mb) := (hw2.gr hW3).2.2.2
    have HF13 := Lib.hid hf13
    have HGu1 := Lib.hid hGu1
    have HG1 := Lib.hid hg1
    have HX3 := Lib.hid (hX2.gr hW3)
    have HP3 := Lib.hid (hP2.gr hW3)
    have HB53 := Lib.hid (bin_fr (HB5U.out.below hGu1) hf13 (fun q hq hk e => by obtain ⟨n1, n2, n3⟩ := HNE.out q hq hk; rcases e with e | e; exact n1 e; exact n2 e))
    have HR3 := Lib.hid (hg1.rf.fr hf13 (fun j t cs hb ht e => by
      rcases e with e | e
      · exact blk_ne hb hg1.fl (by rcases ht with rfl | rfl <;> decide) e
      · exact blk_map hb hg1.mp e) (fun b hb j hj e => by
      obtain ⟨cs, hc⟩ := hg1.rf.dblk hb hj
      rcases e with e | e
      · exact blk_ne hc hg1.fl (by decide) e
      · exact blk_map hc hg1.mp e))
    have hs13 := hf13.size
    clear hW1 hS1 hGu1 hg1 hnb hfw hw2 hf12 hX2 hP2 hW3 hf13
    go_upto_region 8 with (fail)
    refine wp_region_G (fun w_ => Blk w_ w.heap.size 44 [.int .i64 1, .int .i64 n, .int .i64 m, .slice A k c, .bool true, .bool d, .int .u64 (fr : Nat), .int .u64 (sz : Nat)] ∧ Blk w_ s.p 39 [.pointer (some ⟨s.f, 0, none⟩), .pointer (some ⟨s.r, 0, none⟩), .slice a2 s.ans.length c2, .slice a3 s.ans.length c3]) 8 (by kernel_rfl) ⟨HX3.out.drew, HP3.out.drew⟩ ?_
    refine wpAnyG_take (oi := _) (v := _) (fun _ _ hS_ hb_ => ⟨hS_.1.gr hb_, hS_.2.gr hb_⟩) (i := 0) rfl (by kernel_rfl) (fun _ _ _ h => h) (pureG (by rfl) (by intro w; go_simp; first | done | with_reducible rfl)) ?_
    try simp only [Act.put, List.getElem_toArray, List.getElem_cons_succ, List.getElem_cons_zero, List.setIfInBounds_toArray, List.set_cons_zero, List.set_cons_succ]
    refine wpAnyG_take (oi := _) (v := _) (fun _ _ hS_ hb_ => ⟨hS_.1.gr hb_, hS_.2.gr hb_⟩) (i := 1) rfl (by kernel_rfl) (fun _ _ _ h => h) (pureG (by rfl) (by intro w; go_simp; first | done | with_reducible rfl)) ?_
    try simp only [Act.put, List.getElem_toArray, List.getElem_cons_succ, List.getElem_cons_zero, List.setIfInBounds_toArray, List.set_cons_zero, List.set_cons_succ]
    refine wpAnyG_take (oi := _) (v := _) (fun _ _ hS_ hb_ => ⟨hS_.1.gr hb_, hS_.2.gr hb_⟩) (i := 2) rfl (by kernel_rfl) (fun _ _ _ h => h) (pureG (by rfl) (by intro w; go_simp; first | done | with_reducible rfl)) ?_
    try simp only [Act.put, List.getElem_toArray, List.getElem_cons_succ, List.getElem_cons_zero, List.setIfInBounds_toArray, List.set_cons_zero, List.set_cons_succ]
    refine wpAnyG_take (oi := _) (v := _) (fun _ _ hS_ hb_ => ⟨hS_.1.gr hb_, hS_.2.gr hb_⟩) (i := 3) rfl (by kernel_rfl) (fun _ _ _ h => h) (worldG (by rfl) (by intro w_ hS_; have q0 := hS_.2.cell 1; go_simp; first | done | with_reducible rfl)) ?_
    try simp only [Act.put, List.getElem_toArray, List.getElem_cons_succ, List.getElem_cons_zero, List.setIfInBounds_toArray, List.set_cons_zero, List.set_cons_succ]
    refine wpAnyG_take (oi := _) (v := _) (fun _ _ hS_ hb_ => ⟨hS_.1.gr hb_, hS_.2.gr hb_⟩) (i := 4) rfl (by kernel_rfl) (fun _ _ _ h => h) (pureG (by rfl) (by intro w; go_simp; first | done | with_reducible rfl)) ?_
    try simp only [Act.put, List.getElem_toArray, List.getElem_cons_succ, List.getElem_cons_zero, List.setIfInBounds_toArray, List.set_cons_zero, List.set_cons_succ]
    refine wpAnyG_take (oi := _) (v := _) (fun _ _ hS_ hb_ => ⟨hS_.1.gr hb_, hS_.2.gr hb_⟩) (i := 5) rfl (by kernel_rfl) (fun _ _ _ h => h) (worldG (by rfl) (by intro w_ hS_; have q0 := hS_.1.cell 1; go_simp; first | done | with_reducible rfl)) ?_
    try simp only [Act.put, List.getElem_toArray, List.getElem_cons_succ, List.getElem_cons_zero, List.setIfInBounds_toArray, List.set_cons_zero, List.set_cons_succ]
    refine wpAnyG_take (oi := _) (v := _) (fun _ _ hS_ hb_ => ⟨hS_.1.gr hb_, hS_.2.gr hb_⟩) (i := 6) rfl (by kernel_rfl) (fun _ _ _ h => h) (pureG (by rfl) (by intro w; go_simp; first | done | with_reducible rfl)) ?_
    try simp only [Act.put, List.getElem_toArray, List.getElem_cons_succ, List.getElem_cons_zero, List.setIfInBounds_toArray, List.set_cons_zero, List.set_cons_succ]
    refine wpAnyG_only (i := 7) (by kernel_rfl) (fun W4 hW4 hS4 => ?_)
    have hG34 : Gr W3 W4 := (Gr.drew W3).trans hW4
    have hnb := HG.out.nb
    have hr4 := HR3.out.below hG34
    have hrw := rwrite_any base s.r s.N s.cut s.wr n s.on s.dn s.bs A k c l W4 hr4 (HB53.out.below hG34) (fun q hq hk => (HNE.out q hq hk).2.2) (by omega) ⟨hnb.2.2.1, hnb.2.2.2.1⟩ (by omega) (by have := HG1.out.lo.2.2.2.2.1; have := hG34.size; omega)
    rw [HO.out] at hrw
    refine wpOp_callE (i := 7) rfl (by rfl) rfl Try.func31 (by kernel_rfl) (by kernel_rfl) #[.pointer (some ⟨s.r, 0, none⟩), .int .i64 n, .slice A k c] (by simp [Act.eval]) (hrw.mono ?_)
    intro e W5 hw5
    obtain rfl := hw5.1
    have hg45 : W4.grownBy W5 (some s.r) := by obtain ⟨_, bsx, _, _, _, _, hg⟩ := hw5; exact hg
    refine ⟨_, rfl, .inr (S_r hr4 hg45 hS4), ?_⟩
    try simp only [Act.put, List.getElem_toArray, List.getElem_cons_succ, List.getElem_cons_zero, List.setIfInBounds_toArray, List.set_cons_zero, List.set_cons_succ]
    refine wpAnyG_run (i := 8) (v := .int .i64 o.1) (by kernel_rfl) rfl (by rfl) (by intro w_ hS_; go_simp; first | done | with_reducible rfl) ?_
    try simp only [Act.put, List.getElem_toArray, List.getElem_cons_succ, List.getElem_cons_zero, List.setIfInBounds_toArray, List.set_cons_zero, List.set_cons_succ]
    refine wpAnyG_done (by kernel_rfl) (fun W6 hW6 => ?_) _
    obtain ⟨s', hs1, hs2, hs3, hs4, hs5, hs6, hs7, hs8⟩ := good_write HG1.out (HO.out ▸ (HW3.out.gr hG34)) (HO.out ▸ hw5)
    have HS6 := Lib.hid (hs1.below hW6)
    have HSE := Lib.hid (show s'.f = s.f ∧ s'.r = s.r ∧ s'.p = s.p from ⟨hs2, hs3, hs4⟩)
    have HSA := Lib.hid hs5
    have HS7 := Lib.hid hs7
    have HS8 := Lib.hid (hs8.trans (hs1.bel hW6))
    obtain ⟨csr, hrb⟩ := hr4.rblk
    have hf46 : Fr W4 W6 (fun j => j = s.r) := (Fr.grown (F := fun j => j = s.r) hg45 (fun j e _ => by injection e with e; exact e.symm)).trans (Fr.below hW6 : Fr W5 W6 (fun _ => False)) (fun _ _ x => x.elim)
    have HB56 := Lib.hid (bin_fr (HB53.out.below hG34) hf46 (fun q hq hk e => (HNE.out q hq hk).2.2 e))
    have hu1 : ∀ j, rowB a6 k j → ∃ cs, Blk W6 j 5 cs ∧ k ≤ cs.length := fun j hj => by
      obtain ⟨_, _, cs, hcs, hlen⟩ := HU0.out j hj
      have c1 := hcs.gr HGu1.out
      have c3 := blk_fr c1 HF13.out (fun e => by rcases e with e | e; exact blk_ne c1 HG1.out.fl (by decide) e; exact blk_map c1 HG1.out.mp e)
      have c4 := c3.gr hG34
      exact ⟨cs, blk_fr c4 hf46 (fun e => blk_ne c4 hrb (by decide) e), hlen⟩
    have hbu6 : BIn W6 a6 k c6 l := bin_fr (bin_fr (bin_fr (HBU.out.below HGu1.out) HF13.out (fun q hq hk e => by
      obtain ⟨_, _, cs, hcs, _⟩ := HU0.out q.block ⟨hk, q, hq, rfl⟩
      have c1 := hcs.gr HGu1.out
      rcases e with e | e; exact blk_ne c1 HG1.out.fl (by decide) e; exact blk_map c1 HG1.out.mp e)) (Fr.below hG34 : Fr W3 W4 (fun _ => False)) (fun _ _ _ x => x)) hf46 (fun q hq hk e => by
      obtain ⟨_, _, cs, hcs, _⟩ := HU0.out q.block ⟨hk, q, hq, rfl⟩
      have c1 := hcs.gr HGu1.out
      have c3 := blk_fr c1 HF13.out (fun e => by rcases e with e | e; exact blk_ne c1 HG1.out.fl (by decide) e; exact blk_map c1 HG1.out.mp e)
      exact blk_ne (c3.gr hG34) hrb (by decide) e)
    have HU1 := Lib.hid hu1
    have HSM := Lib.hid (sameB_any W6 a6 A k c6 k c l l hbu6 HB56.out)
    have e0 : decide (l = l) = true := by simp
    rw [e0] at HSM
    have HLU := Lib.hid (show ∀ j, rowB a6 k j → (W0).heap.size ≤ j ∧ j < W4.heap.size from fun j hj => by
      obtain ⟨h1, h2, _⟩ := HU0.out j hj
      have := HGu1.out.size; have := hs13; have := hG34.size
      exact ⟨h1, by omega⟩)
    have HAG := Lib.hid ((HG.out.bel (gr_bel HAU.out HGu1.out)))
    clear hW4 hS4 hG34 hnb hr4 hrw hw5 hg45 hW6 hs1 hs2 hs3 hs4 hs5 hs6 hs7 hs8 hf46 hu1 hbu6 hrb e0 hs13
    go_wp2_with fail
    refine HSM.out.mono ?_
    rintro e W7 ⟨rfl, hb7⟩
    have HS7G := Lib.hid (HS6.out.below hb7)
    have HB7 := Lib.hid (HS6.out.bel hb7)
    have HU7 := Lib.hid (show ∀ j, rowB a6 k j → ∃ cs, Blk W7 j 5 cs ∧ k ≤ cs.length from fun j hj => by
      obtain ⟨cs, h1, h2⟩ := HU1.out j hj
      exact ⟨cs, h1.gr hb7, h2⟩)
    have hki : (0 : Int) ≤ (k : Int) := by omega
    have hkm : (k : Int) ≤ 140737488355328 := by omega
    clear hb7 HSM
    go_wp2_with fail
    go_loopw [10] (fun v10 wr => ∃ j : Nat, v10 = .int .i64 j ∧ j ≤ k ∧ Fr W7 wr (rowB a6 k) ∧ (∀ q, rowB a6 k q → ∃ cs, Blk wr q 5 cs ∧ k ≤ cs.length)) (fun v10 _ => k - (intOf v10).toNat)
    case atStart => exact ⟨0, rfl, Nat.zero_le _, Fr.refl _ _, HU7.out⟩
    case round =>
      obtain ⟨j, rfl, hj, hf, hub⟩ := hrel
      have HF := Lib.hid hf
      have HUB := Lib.hid hub
      clear hf hub
      by_cases hjk : j < k
      · have hjk2 : (j : Int) < (k : Int) := by omega
        obtain ⟨gu, hgu⟩ := HU0A.out (by omega)
        subst hgu
        have hrow : rowB (some ⟨gu, 0, none⟩) k gu := ⟨by omega, _, rfl, rfl⟩
        obtain ⟨cs, hcs, hcl⟩ := HUB.out gu hrow
        have HCS := Lib.hid hcs
        have q5 : wr.cell? ⟨gu, j, none⟩ = some (cs[j]'(by omega)) := by rw [hcs.cell]; exact List.getElem?_eq_getElem (by omega)
        have f5 := hcs.free j
        clear hcs
        go_wp2_with fail
        go_roundw
        case rel => exact ⟨j + 1, by go_num, by omega, HF.out.trans (Fr.grown (F := fun q => q = gu) (grown_setCell wr ⟨gu, j, none⟩ _) (fun q e _ => by injection e with e; exact e.symm)) (fun q _ e => e ▸ hrow), fun q ⟨_, q2, hq2, hq3⟩ => by
          injection hq2 with hq2
          subst hq2
          subst hq3
          exact ⟨_, HCS.out.set j _, by rw [List.length_set]; exact hcl⟩⟩
        case measure => simp [intOf]; omega
      · obtain rfl : j = k := by omega
        have HE := Lib.hid (show StepOk base i s w (.returned (.bool true)) wr from ⟨rfl, s', good_over HS7G.out HF.out (fun q hq => by obtain ⟨cs, h1, _⟩ := HU7.out q hq; exact ⟨cs, h1⟩) HLU.out HG5.out HSA.out HS7.out, HSE.out.1, HSE.out.2.1, HSE.out.2.2, ((HAG.out.trans HS8.out).trans HB7.out).trans (frB HF.out (fun q hq => by have := HLU.out q hq; have := HG5.out.lo.2.2.2.2.1; omega) HS7G.out.lo.2.2.2.2.1)⟩)
        clear hjk
        go_wp2_with fail
        go_ret
        exact HE.out
  | false =>
    have HFI := Lib.hid (filled_any A k c l _ HB1.out)
    have hLB := HB1.out.1.2.2.1
    clear hg1
    go_enter Try.func11, Try.ntmps11
    go_wp2_with fail
    refine HFI.out.mono ?_
    rintro e W0 ⟨g5, rfl, hg5, hbk5, hb5⟩
    have hG0 := HG1.out.below hb5
    have HG0 := Lib.hid hG0
    have HB5 := Lib.hid (bin_blk hbk5 (fillL_is hLB))
    have HX0 := Lib.hid (HX.out.gr hb5)
    have HP0 := Lib.hid (HP.out.gr hb5)
    have HA0 := Lib.hid (gr_bel HA.out hb5)
    have HNE := Lib.hid (show ∀ q, (some ⟨g5, 0, none⟩ : Option Addr) = some q → 0 < 512 → q.block ≠ s.f ∧ q.block ≠ s.mb ∧ q.block ≠ s.r from fun q hq hk => by
      injection hq with hq
      subst hq
      obtain ⟨csr, hrb⟩ := hG0.rf.rblk
      exact ⟨blk_ne hbk5 hG0.fl (by decide), blk_map hbk5 hG0.mp, blk_ne hbk5 hrb (by decide)⟩)
    clear hG0 hbk5 hb5 HFI hlow hLB
    have HZR := Lib.hid (zero_row (W0))
    have haa := (Below.refl (W0).heap.size (W0)).alloc (Nat.le_refl _) (.cells #[] 5)
    have HBW := Lib.hid (HB5.out.below haa)
    have hk5 := HB5.out.2.2.2.1
    have hszA := haa.size
    have HAA := Lib.hid haa
    clear haa
    go_wp2_with (refine wpList_append_bytes _ rfl (.tmp 31) (.tmp 32) rfl (W0).heap.size _ 0 [] rfl HZR.out (some ⟨g5, 0, none⟩) 512 512 (fillL l) rfl HBW.out (by omega) hszA ?_)
    intro vu Wu hou hgu
    replace hou : Wu.ownsRow (W0).heap.size 5 1 vu 512 (bytesV (fillL l)) := by simpa using hou
    have hG0u : Gr (W0) Wu := Gr.trans2 HAA.out (grown_new0 hgu (Nat.le_refl _) hszA)
    obtain ⟨a6, c6, rfl, hbu, _⟩ := own_in hou HB5.out.1.2.2.1 hk5
    have hu0 : ∀ j, rowB a6 512 j → (W0).heap.size ≤ j ∧ j < Wu.heap.size ∧ ∃ cs, Blk Wu j 5 cs ∧ 512 ≤ cs.length := fun j ⟨hk, q, hq, hj⟩ => by
      rcases hou.2 with ⟨e, h0⟩ | ⟨g, cap, cur, e, hbg, hg, h1, h2, h3, h4⟩
      · omega
      · injection e with e1 _ _
        rw [hq] at e1
        injection e1 with e1
        subst e1
        subst hj
        exact ⟨hbg, (Array.getElem?_eq_some_iff.1 hg).1, cur.toList, by unfold Blk; simpa using hg, by rw [Array.length_toList, h3]; omega⟩
    have hu0a : 0 < 512 → ∃ g, a6 = some ⟨g, 0, none⟩ := fun hk => by
      rcases hou.2 with ⟨e, h0⟩ | ⟨g, cap, cur, e, _⟩
      · omega
      · injection e with e1 _ _; exact ⟨g, e1⟩
    have HG5 := HG0
    have HU0 := Lib.hid hu0
    have HU0A := Lib.hid hu0a
    have HBU := Lib.hid hbu
    have HGU := Lib.hid (HG0.out.below hG0u)
    have HXU := Lib.hid (HX0.out.gr hG0u)
    have HPU := Lib.hid (HP0.out.gr hG0u)
    have HAU := Lib.hid (gr_bel HA0.out hG0u)
    have HB5U := Lib.hid (HB5.out.below hG0u)
    have HSU := Lib.hid hG0u.size
    clear hou hgu hG0u hu0 hu0a hbu HZR HBW hszA HAA
    obtain ⟨o, ho⟩ : ∃ o, wrOut s.N s.on s.cut s.dn n 512 = o := ⟨_, rfl⟩
    have HO := Lib.hid ho
    clear ho
    go_upto_region 7 with (fail)
    refine wp_region_G (fun w_ => Blk w_ w.heap.size 44 [.int .i64 1, .int .i64 n, .int .i64 m, .slice A k c, .bool false, .bool d, .int .u64 (fr : Nat), .int .u64 (sz : Nat)] ∧ Blk w_ s.p 39 [.pointer (some ⟨s.f, 0, none⟩), .pointer (some ⟨s.r, 0, none⟩), .slice a2 s.ans.length c2, .slice a3 s.ans.length c3]) 8 (by kernel_rfl) ⟨HXU.out.drew, HPU.out.drew⟩ ?_
    refine wpAnyG_take (oi := _) (v := _) (fun _ _ hS_ hb_ => ⟨hS_.1.gr hb_, hS_.2.gr hb_⟩) (i := 0) rfl (by kernel_rfl) (fun _ _ _ h => h) (pureG (by rfl) (by intro w; go_simp; first | done | with_reducible rfl)) ?_
    try simp only [Act.put, List.getElem_toArray, List.getElem_cons_succ, List.getElem_cons_zero, List.setIfInBounds_toArray, List.set_cons_zero, List.set_cons_succ]
    refine wpAnyG_take (oi := _) (v := _) (fun _ _ hS_ hb_ => ⟨hS_.1.gr hb_, hS_.2.gr hb_⟩) (i := 1) rfl (by kernel_rfl) (fun _ _ _ h => h) (pureG (by rfl) (by intro w; go_simp; first | done | with_reducible rfl)) ?_
    try simp only [Act.put, List.getElem_toArray, List.getElem_cons_succ, List.getElem_cons_zero, List.setIfInBounds_toArray, List.set_cons_zero, List.set_cons_succ]
    refine wpAnyG_take (oi := _) (v := _) (fun _ _ hS_ hb_ => ⟨hS_.1.gr hb_, hS_.2.gr hb_⟩) (i := 2) rfl (by kernel_rfl) (fun _ _ _ h => h) (pureG (by rfl) (by intro w; go_simp; first | done | with_reducible rfl)) ?_
    try simp only [Act.put, List.getElem_toArray, List.getElem_cons_succ, List.getElem_cons_zero, List.setIfInBounds_toArray, List.set_cons_zero, List.set_cons_succ]
    refine wpAnyG_take (oi := _) (v := _) (fun _ _ hS_ hb_ => ⟨hS_.1.gr hb_, hS_.2.gr hb_⟩) (i := 3) rfl (by kernel_rfl) (fun _ _ _ h => h) (worldG (by rfl) (by intro w_ hS_; have q0 := hS_.2.cell 0; go_simp; first | done | with_reducible rfl)) ?_
    try simp only [Act.put, List.getElem_toArray, List.getElem_cons_succ, List.getElem_cons_zero, List.setIfInBounds_toArray, List.set_cons_zero, List.set_cons_succ]
    refine wpAnyG_take (oi := _) (v := _) (fun _ _ hS_ hb_ => ⟨hS_.1.gr hb_, hS_.2.gr hb_⟩) (i := 4) rfl (by kernel_rfl) (fun _ _ _ h => h) (pureG (by rfl) (by intro w; go_simp; first | done | with_reducible rfl)) ?_
    try simp only [Act.put, List.getElem_toArray, List.getElem_cons_succ, List.getElem_cons_zero, List.setIfInBounds_toArray, List.set_cons_zero, List.set_cons_succ]
    refine wpAnyG_take (oi := _) (v := _) (fun _ _ hS_ hb_ => ⟨hS_.1.gr hb_, hS_.2.gr hb_⟩) (i := 5) rfl (by kernel_rfl) (fun _ _ _ h => h) (worldG (by rfl) (by intro w_ hS_; have q0 := hS_.1.cell 1; go_simp; first | done | with_reducible rfl)) ?_
    try simp only [Act.put, List.getElem_toArray, List.getElem_cons_succ, List.getElem_cons_zero, List.setIfInBounds_toArray, List.set_cons_zero, List.set_cons_succ]
    refine wpAnyG_take (oi := _) (v := _) (fun _ _ hS_ hb_ => ⟨hS_.1.gr hb_, hS_.2.gr hb_⟩) (i := 6) rfl (by kernel_rfl) (fun _ _ _ h => h) (pureG (by rfl) (by intro w; go_simp; first | done | with_reducible rfl)) ?_
    try simp only [Act.put, List.getElem_toArray, List.getElem_cons_succ, List.getElem_cons_zero, List.setIfInBounds_toArray, List.set_cons_zero, List.set_cons_succ]
    refine wpAnyG_only (i := 7) (by kernel_rfl) (fun W1 hW1 hS1 => ?_)
    have hGu1 : Gr Wu W1 := (Gr.drew Wu).trans hW1
    have hg1 := HGU.out.below hGu1
    have hnb := HG.out.nb
    have hfw := fwrite_any s.f s.mb s.K s.N s.cut s.wr n s.on s.dn _ _ a6 512 c6 (fillL l) W1 hg1.fl hg1.mp (HBU.out.below hGu1) (by omega) ⟨hnb.2.2.1, hnb.2.2.2.1⟩ (by omega) (by omega) (fun q hq hk => by
      obtain ⟨_, _, cs, hcs, _⟩ := HU0.out q.block ⟨hk, q, hq, rfl⟩
      exact blk_ne (hcs.gr hGu1) hg1.fl (by decide))
    rw [HO.out] at hfw
    refine wpOp_callE (i := 7) rfl (by rfl) rfl Try.func22 (by kernel_rfl) (by kernel_rfl) #[.pointer (some ⟨s.f, 0, none⟩), .int .i64 n, .slice a6 512 c6] (by simp [Act.eval]) (hfw.mono ?_)
    intro e W2 hw2
    obtain rfl := hw2.1
    have hf12 : Fr W1 W2 (fun j => j = s.f ∨ j = s.mb) := hw2.2.2.2
    have hX2 := blk_fr hS1.1 hf12 (fun e => by rcases e with e | e; exact blk_ne hS1.1 hg1.fl (by decide) e; exact blk_map hS1.1 hg1.mp e)
    have hP2 := blk_fr hS1.2 hf12 (fun e => by rcases e with e | e; exact blk_ne hS1.2 hg1.fl (by decide) e; exact blk_map hS1.2 hg1.mp e)
    refine ⟨_, rfl, .inr ⟨hX2, hP2⟩, ?_⟩
    try simp only [Act.put, List.getElem_toArray, List.getElem_cons_succ, List.getElem_cons_zero, List.setIfInBounds_toArray, List.set_cons_zero, List.set_cons_succ]
    refine wpAnyG_run (i := 8) (v := .int .i64 o.1) (by kernel_rfl) rfl (by rfl) (by intro w_ hS_; go_simp; first | done | with_reducible rfl) ?_
    try simp only [Act.put, List.getElem_toArray, List.getElem_cons_succ, List.getElem_cons_zero, List.setIfInBounds_toArray, List.set_cons_zero, List.set_cons_succ]
    refine wpAnyG_done (by kernel_rfl) (fun W3 hW3 => ?_) _
    have HW3 := Lib.hid (hw2.gr hW3)
    have hf13 : Fr W1 W3 (fun j => j = s.f ∨ j = s.mb) := (hw2.gr hW3).2.2.2
    have HF13 := Lib.hid hf13
    have HGu1 := Lib.hid hGu1
    have HG1 := Lib.hid hg1
    have HX3 := Lib.hid (hX2.gr hW3)
    have HP3 := Lib.hid (hP2.gr hW3)
    have HB53 := Lib.hid (bin_fr (HB5U.out.below hGu1) hf13 (fun q hq hk e => by obtain ⟨n1, n2, n3⟩ := HNE.out q hq hk; rcases e with e | e; exact n1 e; exact n2 e))
    have HR3 := Lib.hid (hg1.rf.fr hf13 (fun j t cs hb ht e => by
      rcases e with e | e
      · exact blk_ne hb hg1.fl (by rcases ht with rfl | rfl <;> decide) e
      · exact blk_map hb hg1.mp e) (fun b hb j hj e => by
      obtain ⟨cs, hc⟩ := hg1.rf.dblk hb hj
      rcases e with e | e
      · exact blk_ne hc hg1.fl (by decide) e
      · exact blk_map hc hg1.mp e))
    have hs13 := hf13.size
    clear hW1 hS1 hGu1 hg1 hnb hfw hw2 hf12 hX2 hP2 hW3 hf13
    go_upto_region 8 with (fail)
    refine wp_region_G (fun w_ => Blk w_ w.heap.size 44 [.int .i64 1, .int .i64 n, .int .i64 m, .slice A k c, .bool false, .bool d, .int .u64 (fr : Nat), .int .u64 (sz : Nat)] ∧ Blk w_ s.p 39 [.pointer (some ⟨s.f, 0, none⟩), .pointer (some ⟨s.r, 0, none⟩), .slice a2 s.ans.length c2, .slice a3 s.ans.length c3]) 8 (by kernel_rfl) ⟨HX3.out.drew, HP3.out.drew⟩ ?_
    refine wpAnyG_take (oi := _) (v := _) (fun _ _ hS_ hb_ => ⟨hS_.1.gr hb_, hS_.2.gr hb_⟩) (i := 0) rfl (by kernel_rfl) (fun _ _ _ h => h) (pureG (by rfl) (by intro w; go_simp; first | done | with_reducible rfl)) ?_
    try simp only [Act.put, List.getElem_toArray, List.getElem_cons_succ, List.getElem_cons_zero, List.setIfInBounds_toArray, List.set_cons_zero, List.set_cons_succ]
    refine wpAnyG_take (oi := _) (v := _) (fun _ _ hS_ hb_ => ⟨hS_.1.gr hb_, hS_.2.gr hb_⟩) (i := 1) rfl (by kernel_rfl) (fun _ _ _ h => h) (pureG (by rfl) (by intro w; go_simp; first | done | with_reducible rfl)) ?_
    try simp only [Act.put, List.getElem_toArray, List.getElem_cons_succ, List.getElem_cons_zero, List.setIfInBounds_toArray, List.set_cons_zero, List.set_cons_succ]
    refine wpAnyG_take (oi := _) (v := _) (fun _ _ hS_ hb_ => ⟨hS_.1.gr hb_, hS_.2.gr hb_⟩) (i := 2) rfl (by kernel_rfl) (fun _ _ _ h => h) (pureG (by rfl) (by intro w; go_simp; first | done | with_reducible rfl)) ?_
    try simp only [Act.put, List.getElem_toArray, List.getElem_cons_succ, List.getElem_cons_zero, List.setIfInBounds_toArray, List.set_cons_zero, List.set_cons_succ]
    refine wpAnyG_take (oi := _) (v := _) (fun _ _ hS_ hb_ => ⟨hS_.1.gr hb_, hS_.2.gr hb_⟩) (i := 3) rfl (by kernel_rfl) (fun _ _ _ h => h) (worldG (by rfl) (by intro w_ hS_; have q0 := hS_.2.cell 1; go_simp; first | done | with_reducible rfl)) ?_
    try simp only [Act.put, List.getElem_toArray, List.getElem_cons_succ, List.getElem_cons_zero, List.setIfInBounds_toArray, List.set_cons_zero, List.set_cons_succ]
    refine wpAnyG_take (oi := _) (v := _) (fun _ _ hS_ hb_ => ⟨hS_.1.gr hb_, hS_.2.gr hb_⟩) (i := 4) rfl (by kernel_rfl) (fun _ _ _ h => h) (pureG (by rfl) (by intro w; go_simp; first | done | with_reducible rfl)) ?_
    try simp only [Act.put, List.getElem_toArray, List.getElem_cons_succ, List.getElem_cons_zero, List.setIfInBounds_toArray, List.set_cons_zero, List.set_cons_succ]
    refine wpAnyG_take (oi := _) (v := _) (fun _ _ hS_ hb_ => ⟨hS_.1.gr hb_, hS_.2.gr hb_⟩) (i := 5) rfl (by kernel_rfl) (fun _ _ _ h => h) (worldG (by rfl) (by intro w_ hS_; have q0 := hS_.1.cell 1; go_simp; first | done | with_reducible rfl)) ?_
    try simp only [Act.put, List.getElem_toArray, List.getElem_cons_succ, List.getElem_cons_zero, List.setIfInBounds_toArray, List.set_cons_zero, List.set_cons_succ]
    refine wpAnyG_take (oi := _) (v := _) (fun _ _ hS_ hb_ => ⟨hS_.1.gr hb_, hS_.2.gr hb_⟩) (i := 6) rfl (by kernel_rfl) (fun _ _ _ h => h) (pureG (by rfl) (by intro w; go_simp; first | done | with_reducible rfl)) ?_
    try simp only [Act.put, List.getElem_toArray, List.getElem_cons_succ, List.getElem_cons_zero, List.setIfInBounds_toArray, List.set_cons_zero, List.set_cons_succ]
    refine wpAnyG_only (i := 7) (by kernel_rfl) (fun W4 hW4 hS4 => ?_)
    have hG34 : Gr W3 W4 := (Gr.drew W3).trans hW4
    have hnb := HG.out.nb
    have hr4 := HR3.out.below hG34
    have hrw := rwrite_any base s.r s.N s.cut s.wr n s.on s.dn s.bs (some ⟨g5, 0, none⟩) 512 512 (fillL l) W4 hr4 (HB53.out.below hG34) (fun q hq hk => (HNE.out q hq hk).2.2) (by omega) ⟨hnb.2.2.1, hnb.2.2.2.1⟩ (by omega) (by have := HG1.out.lo.2.2.2.2.1; have := hG34.size; omega)
    rw [HO.out] at hrw
    refine wpOp_callE (i := 7) rfl (by rfl) rfl Try.func31 (by kernel_rfl) (by kernel_rfl) #[.pointer (some ⟨s.r, 0, none⟩), .int .i64 n, .slice (some ⟨g5, 0, none⟩) 512 512] (by simp [Act.eval]) (hrw.mono ?_)
    intro e W5 hw5
    obtain rfl := hw5.1
    have hg45 : W4.grownBy W5 (some s.r) := by obtain ⟨_, bsx, _, _, _, _, hg⟩ := hw5; exact hg
    refine ⟨_, rfl, .inr (S_r hr4 hg45 hS4), ?_⟩
    try simp only [Act.put, List.getElem_toArray, List.getElem_cons_succ, List.getElem_cons_zero, List.setIfInBounds_toArray, List.set_cons_zero, List.set_cons_succ]
    refine wpAnyG_run (i := 8) (v := .int .i64 o.1) (by kernel_rfl) rfl (by rfl) (by intro w_ hS_; go_simp; first | done | with_reducible rfl) ?_
    try simp only [Act.put, List.getElem_toArray, List.getElem_cons_succ, List.getElem_cons_zero, List.setIfInBounds_toArray, List.set_cons_zero, List.set_cons_succ]
    refine wpAnyG_done (by kernel_rfl) (fun W6 hW6 => ?_) _
    obtain ⟨s', hs1, hs2, hs3, hs4, hs5, hs6, hs7, hs8⟩ := good_write HG1.out (HO.out ▸ (HW3.out.gr hG34)) (HO.out ▸ hw5)
    have HS6 := Lib.hid (hs1.below hW6)
    have HSE := Lib.hid (show s'.f = s.f ∧ s'.r = s.r ∧ s'.p = s.p from ⟨hs2, hs3, hs4⟩)
    have HSA := Lib.hid hs5
    have HS7 := Lib.hid hs7
    have HS8 := Lib.hid (hs8.trans (hs1.bel hW6))
    obtain ⟨csr, hrb⟩ := hr4.rblk
    have hf46 : Fr W4 W6 (fun j => j = s.r) := (Fr.grown (F := fun j => j = s.r) hg45 (fun j e _ => by injection e with e; exact e.symm)).trans (Fr.below hW6 : Fr W5 W6 (fun _ => False)) (fun _ _ x => x.elim)
    have HB56 := Lib.hid (bin_fr (HB53.out.below hG34) hf46 (fun q hq hk e => (HNE.out q hq hk).2.2 e))
    have hu1 : ∀ j, rowB a6 512 j → ∃ cs, Blk W6 j 5 cs ∧ 512 ≤ cs.length := fun j hj => by
      obtain ⟨_, _, cs, hcs, hlen⟩ := HU0.out j hj
      have c1 := hcs.gr HGu1.out
      have c3 := blk_fr c1 HF13.out (fun e => by rcases e with e | e; exact blk_ne c1 HG1.out.fl (by decide) e; exact blk_map c1 HG1.out.mp e)
      have c4 := c3.gr hG34
      exact ⟨cs, blk_fr c4 hf46 (fun e => blk_ne c4 hrb (by decide) e), hlen⟩
    have hbu6 : BIn W6 a6 512 c6 (fillL l) := bin_fr (bin_fr (bin_fr (HBU.out.below HGu1.out) HF13.out (fun q hq hk e => by
      obtain ⟨_, _, cs, hcs, _⟩ := HU0.out q.block ⟨hk, q, hq, rfl⟩
      have c1 := hcs.gr HGu1.out
      rcases e with e | e; exact blk_ne c1 HG1.out.fl (by decide) e; exact blk_map c1 HG1.out.mp e)) (Fr.below hG34 : Fr W3 W4 (fun _ => False)) (fun _ _ _ x => x)) hf46 (fun q hq hk e => by
      obtain ⟨_, _, cs, hcs, _⟩ := HU0.out q.block ⟨hk, q, hq, rfl⟩
      have c1 := hcs.gr HGu1.out
      have c3 := blk_fr c1 HF13.out (fun e => by rcases e with e | e; exact blk_ne c1 HG1.out.fl (by decide) e; exact blk_map c1 HG1.out.mp e)
      exact blk_ne (c3.gr hG34) hrb (by decide) e)
    have HU1 := Lib.hid hu1
    have HSM := Lib.hid (sameB_any W6 a6 (some ⟨g5, 0, none⟩) 512 c6 512 512 (fillL l) (fillL l) hbu6 HB56.out)
    have e0 : decide ((fillL l) = (fillL l)) = true := by simp
    rw [e0] at HSM
    have HLU := Lib.hid (show ∀ j, rowB a6 512 j → (W0).heap.size ≤ j ∧ j < W4.heap.size from fun j hj => by
      obtain ⟨h1, h2, _⟩ := HU0.out j hj
      have := HGu1.out.size; have := hs13; have := hG34.size
      exact ⟨h1, by omega⟩)
    have HAG := Lib.hid ((HG.out.bel (gr_bel HAU.out HGu1.out)))
    clear hW4 hS4 hG34 hnb hr4 hrw hw5 hg45 hW6 hs1 hs2 hs3 hs4 hs5 hs6 hs7 hs8 hf46 hu1 hbu6 hrb e0 hs13
    go_wp2_with fail
    refine HSM.out.mono ?_
    rintro e W7 ⟨rfl, hb7⟩
    have HS7G := Lib.hid (HS6.out.below hb7)
    have HB7 := Lib.hid (HS6.out.bel hb7)
    have HU7 := Lib.hid (show ∀ j, rowB a6 512 j → ∃ cs, Blk W7 j 5 cs ∧ 512 ≤ cs.length from fun j hj => by
      obtain ⟨cs, h1, h2⟩ := HU1.out j hj
      exact ⟨cs, h1.gr hb7, h2⟩)
    have hki : (0 : Int) ≤ (512 : Int) := by omega
    have hkm : (512 : Int) ≤ 140737488355328 := by omega
    clear hb7 HSM
    go_wp2_with fail
    go_loopw [10] (fun v10 wr => ∃ j : Nat, v10 = .int .i64 j ∧ j ≤ 512 ∧ Fr W7 wr (rowB a6 512) ∧ (∀ q, rowB a6 512 q → ∃ cs, Blk wr q 5 cs ∧ 512 ≤ cs.length)) (fun v10 _ => 512 - (intOf v10).toNat)
    case atStart => exact ⟨0, rfl, Nat.zero_le _, Fr.refl _ _, HU7.out⟩
    case round =>
      obtain ⟨j, rfl, hj, hf, hub⟩ := hrel
      have HF := Lib.hid hf
      have HUB := Lib.hid hub
      clear hf hub
      by_cases hjk : j < 512
      · have hjk2 : (j : Int) < (512 : Int) := by omega
        obtain ⟨gu, hgu⟩ := HU0A.out (by omega)
        subst hgu
        have hrow : rowB (some ⟨gu, 0, none⟩) 512 gu := ⟨by omega, _, rfl, rfl⟩
        obtain ⟨cs, hcs, hcl⟩ := HUB.out gu hrow
        have HCS := Lib.hid hcs
        have q5 : wr.cell? ⟨gu, j, none⟩ = some (cs[j]'(by omega)) := by rw [hcs.cell]; exact List.getElem?_eq_getElem (by omega)
        have f5 := hcs.free j
        clear hcs
        go_wp2_with fail
        go_roundw
        case rel => exact ⟨j + 1, by go_num, by omega, HF.out.trans (Fr.grown (F := fun q => q = gu) (grown_setCell wr ⟨gu, j, none⟩ _) (fun q e _ => by injection e with e; exact e.symm)) (fun q _ e => e ▸ hrow), fun q ⟨_, q2, hq2, hq3⟩ => by
          injection hq2 with hq2
          subst hq2
          subst hq3
          exact ⟨_, HCS.out.set j _, by rw [List.length_set]; exact hcl⟩⟩
        case measure => simp [intOf]; omega
      · obtain rfl : j = 512 := by omega
        have HE := Lib.hid (show StepOk base i s w (.returned (.bool true)) wr from ⟨rfl, s', good_over HS7G.out HF.out (fun q hq => by obtain ⟨cs, h1, _⟩ := HU7.out q hq; exact ⟨cs, h1⟩) HLU.out HG5.out HSA.out HS7.out, HSE.out.1, HSE.out.2.1, HSE.out.2.2, ((HAG.out.trans HS8.out).trans HB7.out).trans (frB HF.out (fun q hq => by have := HLU.out q hq; have := HG5.out.lo.2.2.2.2.1; omega) HS7G.out.lo.2.2.2.2.1)⟩)
        clear hjk
        go_wp2_with fail
        go_ret
        exact HE.out
end Go.Proofs.Ytlgpaglkhgomiaa
