/- New. Condition: the list of blocks is in reach. -/
import Derived.Test.YtlgpaglkhgomiaaFx
import Derived.Deep.CutRange
namespace Go.Proofs.Ytlgpaglkhgomiaa
open Go.RowKit
set_option linter.unusedVariables false
set_option maxRecDepth 100000
set_option linter.unusedSimpArgs false
/-- one block of a list -/
structure BlkR where
  N : Int
  a : Option Addr
  n : Nat
  c : Nat
  l : List Nat
def BlkR.cs (x : BlkR) : List Value := [.int .i64 x.N, .slice x.a x.n x.c]
/-- a list of blocks in memory -/
def LIn (w : World) (A : Option Addr) (k : Nat) (bs : List BlkR) : Prop :=
  bs.length = k ∧ (∀ x ∈ bs, BIn w x.a x.n x.c x.l ∧ I64 x.N) ∧ (k = 0 ∨ ∃ b off, A = some ⟨b, off, none⟩ ∧ ∀ i x, bs[i]? = some x → w.rangeAt b (off + i * 2) x.cs)
theorem LIn.below {w w' : World} {A : Option Addr} {k : Nat} {bs : List BlkR} (h : LIn w A k bs) (hb : Below w.heap.size w w') : LIn w' A k bs :=
  ⟨h.1, fun x hx => ⟨(h.2.1 x hx).1.below hb, (h.2.1 x hx).2⟩, h.2.2.imp id (fun ⟨b, off, e, hr⟩ => ⟨b, off, e, fun i x hx => range_gr (hr i x hx) hb⟩)⟩
/-- the blocks, one by one: the error, which numbers are held, and what they hold -/
def newR (N : Int) : List BlkR → (Int → Bool) → (Int → List Nat) → Int × (Int → Bool) × (Int → List Nat)
  | [], hs, c => (0, hs, c)
  | x :: r, hs, c => if hs x.N = true ∨ ¬ (0 ≤ x.N ∧ x.N < N) then (141, hs, c) else if x.n ≠ 512 then (142, hs, c) else newR N r (upB hs x.N) (upC c x.N x.l)
theorem newR_bad {N : Int} {x : BlkR} {r : List BlkR} {hs : Int → Bool} {c : Int → List Nat} (h : hs x.N = true ∨ ¬ (0 ≤ x.N ∧ x.N < N)) : newR N (x :: r) hs c = (141, hs, c) := by rw [newR, if_pos h]
theorem newR_short {N : Int} {x : BlkR} {r : List BlkR} {hs : Int → Bool} {c : Int → List Nat} (h : ¬ (hs x.N = true ∨ ¬ (0 ≤ x.N ∧ x.N < N))) (hn : x.n ≠ 512) : newR N (x :: r) hs c = (142, hs, c) := by rw [newR, if_neg h, if_pos hn]
theorem newR_go {N : Int} {x : BlkR} {r : List BlkR} {hs : Int → Bool} {c : Int → List Nat} (h : ¬ (hs x.N = true ∨ ¬ (0 ≤ x.N ∧ x.N < N))) (hn : ¬ x.n ≠ 512) : newR N (x :: r) hs c = newR N r (upB hs x.N) (upC c x.N x.l) := by rw [newR, if_neg h, if_neg hn]
theorem info62 : (Try.prog.info? 62).map (·.size) = some 2 := by kernel_rfl
section
variable {w : World} {ops : Array Oper} {rest : List Oper} {o : Oper} {a : Act} {Q : Exit → Act → World → Prop}
/-- a struct is loaded out of a list -/
theorem ldM (hgd : o.guard = none) (ty : TypeId) (x : Operand) (ho : o.op = .load ty x) (b off : Nat) (hx : a.eval x = .pointer (some ⟨b, off, none⟩)) (cs : List Value) (d : TypeDesc) (hr : w.rangeAt b off cs) (hu : Try.prog.underlying ty = some d) (hd : d.isRow = true) (hi : (Try.prog.info? ty).map (·.size) = some cs.length)
    (h : wpList Try.prog ops Q rest (a.put o.dst (.agg cs.toArray)) w) : wpList Try.prog ops Q (o :: rest) a w := by
  refine wpList_plain hgd fun K hK => ?_
  unfold Oper.wp execOp
  simp only [ho, hx, Instr.loadAt, Instr.sureAddr, Sem.run_bind, Sem.run_pure, Result.andThen_ok, run_loadVar_mid w b off ty cs d hr hu hd hi]
  exact hK _ _ h
end
theorem alloc70 (w : World) : (Instr.alloc 70 true (.tuple #[])).run Try.prog w = .ok (.pointer (some ⟨w.heap.size, 0, none⟩)) (w.alloc (.cells (natsV .u8 zB).toArray 70)) := by
  have hz := zeroB w
  unfold arrV at hz
  simp [Instr.alloc, Sem.run_bind, hz]
  rfl
/-- what New answers -/
def NewB (N : Int) (k : Nat) (bs : List BlkR) (w : World) (e : Ending) (w' : World) : Prop :=
  Below w.heap.size w w' ∧
  ((newR N bs (fun _ => false) (fun _ => zB)).1 ≠ 0 → e = .returned (.tuple #[.pointer none, .int .i64 (newR N bs (fun _ => false) (fun _ => zB)).1])) ∧
  ((newR N bs (fun _ => false) (fun _ => zB)).1 = 0 → ∃ f mb, w.heap.size ≤ f ∧ w.heap.size ≤ mb ∧ e = .returned (.tuple #[.pointer (some ⟨f, 0, none⟩), .int .i64 0]) ∧ FlB w' f mb N true 0 false 0 ∧
    MAt w' mb k (keepB (newR N bs (fun _ => false) (fun _ => zB)).2.1 (newR N bs (fun _ => false) (fun _ => zB)).2.2 (fun _ => false)) (newR N bs (fun _ => false) (fun _ => zB)).2.2)
theorem newB_no {N : Int} {k : Nat} {bs : List BlkR} {w w' : World} {e : Ending} (hb : Below w.heap.size w w') (E : Int) {hs : Int → Bool} {c : Int → List Nat} (hE : newR N bs (fun _ => false) (fun _ => zB) = (E, hs, c)) (h0 : E ≠ 0) (he : e = .returned (.tuple #[.pointer none, .int .i64 E])) : NewB N k bs w e w' := by
  unfold NewB
  rw [hE]
  exact ⟨hb, fun _ => he, fun h => absurd h h0⟩
theorem grown_new0 {w w' : World} {B g : Nat} (h : w.grownBy w' (some g)) (hg : B ≤ g) (hB : B ≤ w.heap.size) : Below B w w' :=
  ⟨h.os, h.tape, h.output, h.size, fun k hk => h.block k (by omega) (fun e => by injection e with e; omega)⟩
set_option maxHeartbeats 400000 in
theorem new_out (N : Int) (v : Value) (w : World) (h : N < 1 ∨ 1048576 < N) :
    Calls Try.prog 7 #[.int .i64 N, v] w fun e w' => e = .returned (.tuple #[.pointer none, .int .i64 1]) ∧ w = w' := by
  by_cases q : N < 1
  · clear h
    go_enter Try.func7, Try.ntmps7
    go_wp2
    go_ret2
    exact ⟨rfl, rfl⟩
  · have q2 : 1048576 < N := by omega
    clear h
    go_enter Try.func7, Try.ntmps7
    go_wp2
    go_ret2
    exact ⟨rfl, rfl⟩
set_option maxHeartbeats 6400000 in
theorem new_any (N : Int) (A : Option Addr) (k cp : Nat) (bs : List BlkR) (w : World) (hN0 : 1 ≤ N) (hN1 : N ≤ 1048576) (hin : LIn w A k bs) (hk : k ≤ 70368744177664) :
    Calls Try.prog 7 #[.int .i64 N, .slice A k cp] w (NewB N k bs w) := by
  have HIN := Lib.hid hin
  have hmk := @run_makeMap Try.prog
  clear hin
  go_enter Try.func7, Try.ntmps7
  go_upto_region 4 with (fail)
  clear hmk
  obtain ⟨mb, hmb⟩ : ∃ mb, w.heap.size = mb := ⟨_, rfl⟩
  obtain ⟨f, hf⟩ : ∃ f, mb + 1 = f := ⟨_, rfl⟩
  obtain ⟨W0, hW0⟩ : ∃ W0, w.alloc (.map #[] 0) = W0 := ⟨_, rfl⟩
  have hs0 : W0.heap.size = f := by rw [← hW0, ← hf, ← hmb]; simp
  obtain ⟨W1, hW1⟩ : ∃ W1, W0.alloc (.cells #[.int .i64 N, .map (some mb), .bool true, .int .i64 0, .bool false, .int .i64 0] 68) = W1 := ⟨_, rfl⟩
  have hM0 : MAt W0 mb 0 (fun _ => false) (fun _ => zB) := by rw [← hW0, ← hmb]; exact MAt.made w
  have hg01 : Below W0.heap.size W0 W1 := by rw [← hW1]; exact (Below.refl _ _).alloc (Nat.le_refl _) _
  have HM1 := Lib.hid (hM0.gr hg01)
  have HF1 := Lib.hid (show FlB W1 f mb N true 0 false 0 from by rw [← hW1, ← hs0]; exact Blk.new W0 _ _)
  have HB1 := Lib.hid (show Below w.heap.size w W1 from ((Below.refl w.heap.size w).alloc (Nat.le_refl _) _ : Below w.heap.size w (w.alloc (.map #[] 0))).trans (by rw [hW0]; exact hg01.mono (by rw [hs0, ← hf, ← hmb]; omega)))
  have HMB := Lib.hid hmb
  have HFM := Lib.hid hf
  have hfm : w.heap.size < f := by omega
  have hfmb : mb < f := by omega
  have hmm : w.heap.size ≤ mb := by omega
  try rw [hW0]
  try rw [hmb]
  try rw [hf]
  try rw [hW1]
  clear hmb hf hW0 hW1 hs0 hM0 hg01
  go_wp2_with fail
  go_loopw [23] (fun v23 wr => ∃ (i : Nat) (hs : Int → Bool) (c : Int → List Nat), v23 = .int .i64 i ∧ i ≤ k ∧ newR N (bs.drop i) hs c = newR N bs (fun _ => false) (fun _ => zB) ∧ FlB wr f mb N true 0 false 0 ∧ MAt wr mb i hs c ∧ Below w.heap.size w wr) (fun v23 _ => k - (intOf v23).toNat)
  case atStart => exact ⟨0, _, _, rfl, Nat.zero_le _, rfl, HF1.out, HM1.out, HB1.out⟩
  case round =>
    obtain ⟨i, hs, c, rfl, hi, hnr, hfl, hma, hbel⟩ := hrel
    have HNR := Lib.hid hnr
    have HFL := Lib.hid hfl
    have HMA := Lib.hid hma
    have HBL := Lib.hid hbel
    clear hnr hfl hma hbel HF1 HM1 HB1
    by_cases hik : i < k
    · obtain ⟨b, off, rfl, hcell⟩ := HIN.out.2.2.resolve_left (by omega)
      obtain ⟨x, hx⟩ : ∃ x, bs[i]? = some x := ⟨_, List.getElem?_eq_getElem (by rw [HIN.out.1]; exact hik)⟩
      have hdrop : bs.drop i = x :: bs.drop (i + 1) := by
        have h1 := (List.getElem?_eq_some_iff.1 hx)
        rw [List.drop_eq_getElem_cons h1.1, h1.2]
      rw [hdrop] at HNR
      have HC := Lib.hid (range_gr (hcell i x hx) HBL.out)
      have hxx := HIN.out.2.1 x (List.mem_of_getElem? hx)
      have HBN := Lib.hid (hxx.1.below HBL.out)
      have hxN := hxx.2
      have hik' : (i : Int) < (k : Int) := by omega
      clear hcell hx hdrop hxx
      have hwr : w.heap.size < wr.heap.size := by have := Blk.lt HFL.out; omega
      have hfwr := Blk.lt HFL.out
      have hmwr := HMA.out.lt
      have hZ : Blk (wr.alloc (.cells #[.int .i64 0, .slice none 0 0] 62)) wr.heap.size 62 [.int .i64 0, .slice none 0 0] := Blk.new wr _ _
      obtain ⟨W2, hW2⟩ : ∃ W2, (wr.alloc (.cells #[.int .i64 0, .slice none 0 0] 62)).setRow wr.heap.size x.cs.toArray = W2 := ⟨_, rfl⟩
      have hb2 : Below wr.heap.size wr W2 := by rw [← hW2]; exact below_setRow' ((Below.refl _ _).alloc (Nat.le_refl _) _) (Nat.le_refl _) _
      have HX2 := Lib.hid (show Blk W2 wr.heap.size 62 x.cs from by rw [← hW2]; exact hZ.setRow _)
      have HZ := Lib.hid hZ
      have HW2 := Lib.hid hW2
      have HF2 := Lib.hid (HFL.out.gr hb2)
      have HM2 := Lib.hid (HMA.out.gr hb2)
      have HN2 := Lib.hid (HBN.out.below hb2)
      have HB2 := Lib.hid (HBL.out.trans (hb2.mono HBL.out.size))
      have hs2 : W2.heap.size = wr.heap.size + 1 := by rw [← hW2]; simp
      clear hZ hW2 hb2
      go_upto_region 7 with (first | (refine ldM rfl 62 (.tmp 25) rfl b (off + i * 2) rfl x.cs _ HC.out Try.underlying62 rfl info62 ?_) | (refine stB rfl 62 (.tmp 8) (.tmp 26) rfl wr.heap.size rfl x.cs rfl 62 [.int .i64 0, .slice none 0 0] HZ.out info62 rfl (fun v hv => by unfold BlkR.cs at hv; simp at hv; rcases hv with rfl | rfl <;> rfl) ?_; rw [HW2.out]))
      go_frame
      obtain ⟨tw, htw⟩ : ∃ tw, hs x.N = tw := ⟨_, rfl⟩
      have hB : IsB (c x.N) := by obtain ⟨D, _, _, _, h4⟩ := HM2.out; exact h4 _
      refine wp_region_G (fun w_ => FlB w_ f mb N true 0 false 0 ∧ Blk w_ wr.heap.size 62 x.cs ∧ MAt w_ mb i hs c) 12 (by kernel_rfl) ⟨HF2.out.drew, HX2.out.drew, HM2.out.drew⟩ ?_
      refine wpAnyG_take (oi := _) (v := _) (fun _ _ hS_ hb_ => ⟨hS_.1.gr hb_, hS_.2.1.gr hb_, hS_.2.2.gr hb_⟩) (i := 0) rfl (by kernel_rfl) (fun _ _ _ h => h) (pureG (by rfl) (by intro w; go_simp; first | done | with_reducible rfl)) ?_
      try simp only [Act.put, List.getElem_toArray, List.getElem_cons_succ, List.getElem_cons_zero, List.setIfInBounds_toArray, List.set_cons_zero, List.set_cons_succ]
      refine wpAnyG_take (oi := _) (v := _) (fun _ _ hS_ hb_ => ⟨hS_.1.gr hb_, hS_.2.1.gr hb_, hS_.2.2.gr hb_⟩) (i := 1) rfl (by kernel_rfl) (fun _ _ _ h => h) (pureG (by rfl) (by intro w; go_simp; first | done | with_reducible rfl)) ?_
      try simp only [Act.put, List.getElem_toArray, List.getElem_cons_succ, List.getElem_cons_zero, List.setIfInBounds_toArray, List.set_cons_zero, List.set_cons_succ]
      refine wpAnyG_take (oi := _) (v := _) (fun _ _ hS_ hb_ => ⟨hS_.1.gr hb_, hS_.2.1.gr hb_, hS_.2.2.gr hb_⟩) (i := 2) rfl (by kernel_rfl) (fun _ _ _ h => h) (pureG (by rfl) (by intro w; go_simp; first | done | with_reducible rfl)) ?_
      try simp only [Act.put, List.getElem_toArray, List.getElem_cons_succ, List.getElem_cons_zero, List.setIfInBounds_toArray, List.set_cons_zero, List.set_cons_succ]
      refine wpAnyG_take (oi := _) (v := _) (fun _ _ hS_ hb_ => ⟨hS_.1.gr hb_, hS_.2.1.gr hb_, hS_.2.2.gr hb_⟩) (i := 3) rfl (by kernel_rfl) (fun _ _ _ h => h) (worldG (by rfl) (by intro w_ hS_; have q0 := hS_.1.c1; go_simp; first | done | with_reducible rfl)) ?_
      try simp only [Act.put, List.getElem_toArray, List.getElem_cons_succ, List.getElem_cons_zero, List.setIfInBounds_toArray, List.set_cons_zero, List.set_cons_succ]
      refine wpAnyG_take (oi := _) (v := _) (fun _ _ hS_ hb_ => ⟨hS_.1.gr hb_, hS_.2.1.gr hb_, hS_.2.2.gr hb_⟩) (i := 4) rfl (by kernel_rfl) (fun _ _ _ h => h) (pureG (by rfl) (by intro w; go_simp; first | done | with_reducible rfl)) ?_
      try simp only [Act.put, List.getElem_toArray, List.getElem_cons_succ, List.getElem_cons_zero, List.setIfInBounds_toArray, List.set_cons_zero, List.set_cons_succ]
      refine wpAnyG_take (oi := _) (v := _) (fun _ _ hS_ hb_ => ⟨hS_.1.gr hb_, hS_.2.1.gr hb_, hS_.2.2.gr hb_⟩) (i := 5) rfl (by kernel_rfl) (fun _ _ _ h => h) (worldG (by rfl) (by intro w_ hS_; have q0 := show w_.cell? ⟨wr.heap.size, 0, none⟩ = some (.int .i64 x.N) from hS_.2.1.cell 0; go_simp; first | done | with_reducible rfl)) ?_
      try simp only [Act.put, List.getElem_toArray, List.getElem_cons_succ, List.getElem_cons_zero, List.setIfInBounds_toArray, List.set_cons_zero, List.set_cons_succ]
      refine wpAnyG_take (oi := _) (v := _) (fun _ _ hS_ hb_ => ⟨hS_.1.gr hb_, hS_.2.1.gr hb_, hS_.2.2.gr hb_⟩) (i := 6) rfl (by kernel_rfl) (fun _ _ _ h => h) (worldG (by rfl) (by intro w_ hS_; have q0 := hS_.2.2.run_look_ok hxN; rw [htw] at q0; go_simp; first | done | with_reducible rfl)) ?_
      try simp only [Act.put, List.getElem_toArray, List.getElem_cons_succ, List.getElem_cons_zero, List.setIfInBounds_toArray, List.set_cons_zero, List.set_cons_succ]
      refine wpAnyG_take (oi := _) (v := _) (fun _ _ hS_ hb_ => ⟨hS_.1.gr hb_, hS_.2.1.gr hb_, hS_.2.2.gr hb_⟩) (i := 7) rfl (by kernel_rfl) (fun _ _ _ h => h) (pureG (by rfl) (by intro w; go_simp; first | done | with_reducible rfl)) ?_
      try simp only [Act.put, List.getElem_toArray, List.getElem_cons_succ, List.getElem_cons_zero, List.setIfInBounds_toArray, List.set_cons_zero, List.set_cons_succ]
      refine wpAnyG_take (oi := _) (v := _) (fun _ _ hS_ hb_ => ⟨hS_.1.gr hb_, hS_.2.1.gr hb_, hS_.2.2.gr hb_⟩) (i := 8) rfl (by kernel_rfl) (fun _ _ _ h => h) (pureG (by rfl) (by intro w; go_simp; first | done | with_reducible rfl)) ?_
      try simp only [Act.put, List.getElem_toArray, List.getElem_cons_succ, List.getElem_cons_zero, List.setIfInBounds_toArray, List.set_cons_zero, List.set_cons_succ]
      refine wpAnyG_take (oi := _) (v := _) (fun _ _ hS_ hb_ => ⟨hS_.1.gr hb_, hS_.2.1.gr hb_, hS_.2.2.gr hb_⟩) (i := 9) rfl (by kernel_rfl) (fun _ _ _ h => h) (pureG (by rfl) (by intro w; go_simp; first | done | with_reducible rfl)) ?_
      try simp only [Act.put, List.getElem_toArray, List.getElem_cons_succ, List.getElem_cons_zero, List.setIfInBounds_toArray, List.set_cons_zero, List.set_cons_succ]
      refine wpAnyG_alloc (i := 10) (zs := natsV .u8 zB) (t := 70) (fun _ _ hS_ hb_ => ⟨hS_.1.gr hb_, hS_.2.1.gr hb_, hS_.2.2.gr hb_⟩) (by kernel_rfl) rfl (allocG (by rfl) rfl _ (fun w => alloc70 w)) (fun Wa g hWa hga hba => ?_)
      try simp only [Act.put, List.getElem_toArray, List.getElem_cons_succ, List.getElem_cons_zero, List.setIfInBounds_toArray, List.set_cons_zero, List.set_cons_succ]
      refine wpAnyG_store (i := 11) (by kernel_rfl) rfl hba (by rw [natsV_length, natsV_length, zB_is.1, hB.1]) (StoresG.mk (by rfl) 70 (.tmp 9) (.tmp 35) rfl rfl (cs := natsV .u8 (c x.N)) rfl (infoBl hB) (natsV_one _ _)) (.inr (fun w_ hS_ => ⟨Blk.row hS_.1 _ (by have : W2.heap.size ≤ g := hga; omega), Blk.row hS_.2.1 _ (by have : W2.heap.size ≤ g := hga; omega), MAt.grown hS_.2.2 (grown_setRow _ _ _) (fun e => by injection e with e; have : W2.heap.size ≤ g := hga; omega)⟩)) (fun Wb hgb hbb => ?_)
      try simp only [Act.put, List.getElem_toArray, List.getElem_cons_succ, List.getElem_cons_zero, List.setIfInBounds_toArray, List.set_cons_zero, List.set_cons_succ]
      refine wpAnyG_only (i := 12) (by kernel_rfl) (fun Wd hGd hSd => ?_)
      refine wpOp_run rfl (by rfl) (v := .bool tw) (W2 := Wd) (by go_simp; first | done | with_reducible rfl) ⟨.inl ⟨rfl, by kernel_rfl⟩, wpAnyG_done (by kernel_rfl) (fun W3 h3 => ?_) _⟩
      try simp only [Act.put, List.getElem_toArray, List.getElem_cons_succ, List.getElem_cons_zero, List.setIfInBounds_toArray, List.set_cons_zero, List.set_cons_succ]
      have hgr : Below W2.heap.size W2 W3 := (Gr.drew W2).trans (((hWa.store hgb hga).trans hGd).trans h3)
      have HF3 := Lib.hid (HF2.out.gr hgr)
      have HX3 := Lib.hid (HX2.out.gr hgr)
      have HM3 := Lib.hid (HM2.out.gr hgr)
      have HN3 := Lib.hid (HN2.out.below hgr)
      have HB3 := Lib.hid (HB2.out.trans (hgr.mono HB2.out.size))
      have hs3 := hgr.size
      clear hWa hga hba hgb hbb hGd hSd h3 hgr
      have k0 : W3.cell? ⟨wr.heap.size, 0, none⟩ = some (.int .i64 x.N) := HX3.out.cell 0
      have k1 : W3.cell? ⟨wr.heap.size, 1, none⟩ = some (.slice x.a x.n x.c) := HX3.out.cell 1
      have HTW := Lib.hid htw
      clear htw
      cases tw
      · by_cases hr : 0 ≤ x.N ∧ x.N < N
        · have HH := Lib.hid (has_yes f mb N 0 0 x.N true false W3 HF3.out hr.1 hr.2)
          have hno : ¬ (hs x.N = true ∨ ¬ (0 ≤ x.N ∧ x.N < N)) := by rw [HTW.out]; simp; exact hr
          by_cases hn : x.n ≠ 512
          · have HR := Lib.hid (newR_short (r := bs.drop (i + 1)) (c := c) hno hn)
            rw [HNR.out] at HR
            have t1 : ((x.n : Int) != 512) = true := by simp; omega
            clear hno hn hr
            go_wp2_with (go_at_call 27; refine HH.out.mono ?_; rintro e w9 ⟨rfl, rfl⟩)
            go_ret2
            exact newB_no HB3.out 142 HR.out (by omega) rfl
          · have HR := Lib.hid (newR_go (r := bs.drop (i + 1)) (c := c) hno hn)
            rw [HNR.out] at HR
            obtain hn5 : x.n = 512 := by omega
            have HXN := Lib.hid hn5
            obtain ⟨b2, o2, hxa, _⟩ := HN3.out.1.2.2.2.resolve_left (by omega)
            have hbin : BIn W3 (some ⟨b2, o2, none⟩) 512 x.c x.l := by have q := HN3.out; rwa [hxa, hn5] at q
            rw [hxa, hn5] at k1
            have hl := bin_isB hbin
            have HRG := Lib.hid (bin_range hbin)
            have hat : ∀ w, (Instr.arrayAt 70 (.slice (some ⟨b2, o2, none⟩) 512 x.c)).run Try.prog w = .ok (.pointer (some ⟨b2, o2, none⟩)) w := fun w => run_arrayAt w 70 _ 512 _ 512 x.c Try.underlying70 (Nat.le_refl _)
            have HKC := Lib.hid (show ∀ w_, Blk w_ wr.heap.size 62 x.cs → w_.cell? ⟨wr.heap.size, 1, none⟩ = some (.slice (some ⟨b2, o2, none⟩) 512 x.c) from fun w_ h => by rw [h.cell 1]; unfold BlkR.cs; rw [hxa, hn5]; rfl)
            clear hno hn hr hxa hbin hn5
            go_upto_region 12 with (go_at_call 27; refine HH.out.mono ?_; rintro e w9 ⟨rfl, rfl⟩)
            clear k0 k1 HH
            refine wp_region_G (fun w_ => FlB w_ f mb N true 0 false 0 ∧ Blk w_ wr.heap.size 62 x.cs ∧ MAt w_ mb i hs c ∧ w_.rangeAt b2 o2 (natsV .u8 x.l)) 10 (by kernel_rfl) ⟨HF3.out.drew, HX3.out.drew, HM3.out.drew, HRG.out⟩ ?_
            refine wpAnyG_take (oi := _) (v := _) (fun _ _ hS_ hb_ => ⟨hS_.1.gr hb_, hS_.2.1.gr hb_, hS_.2.2.1.gr hb_, range_gr hS_.2.2.2 hb_⟩) (i := 0) rfl (by kernel_rfl) (fun _ _ _ h => h) (pureG (by rfl) (by intro w; go_simp; first | done | with_reducible rfl)) ?_
            try simp only [Act.put, List.getElem_toArray, List.getElem_cons_succ, List.getElem_cons_zero, List.setIfInBounds_toArray, List.set_cons_zero, List.set_cons_succ]
            refine wpAnyG_take (oi := _) (v := _) (fun _ _ hS_ hb_ => ⟨hS_.1.gr hb_, hS_.2.1.gr hb_, hS_.2.2.1.gr hb_, range_gr hS_.2.2.2 hb_⟩) (i := 1) rfl (by kernel_rfl) (fun _ _ _ h => h) (pureG (by rfl) (by intro w; go_simp; first | done | with_reducible rfl)) ?_
            try simp only [Act.put, List.getElem_toArray, List.getElem_cons_succ, List.getElem_cons_zero, List.setIfInBounds_toArray, List.set_cons_zero, List.set_cons_succ]
            refine wpAnyG_take (oi := _) (v := _) (fun _ _ hS_ hb_ => ⟨hS_.1.gr hb_, hS_.2.1.gr hb_, hS_.2.2.1.gr hb_, range_gr hS_.2.2.2 hb_⟩) (i := 2) rfl (by kernel_rfl) (fun _ _ _ h => h) (pureG (by rfl) (by intro w; go_simp; first | done | with_reducible rfl)) ?_
            try simp only [Act.put, List.getElem_toArray, List.getElem_cons_succ, List.getElem_cons_zero, List.setIfInBounds_toArray, List.set_cons_zero, List.set_cons_succ]
            refine wpAnyG_take (oi := _) (v := _) (fun _ _ hS_ hb_ => ⟨hS_.1.gr hb_, hS_.2.1.gr hb_, hS_.2.2.1.gr hb_, range_gr hS_.2.2.2 hb_⟩) (i := 3) rfl (by kernel_rfl) (fun _ _ _ h => h) (worldG (by rfl) (by intro w_ hS_; have q0 := hS_.1.c1; go_simp; first | done | with_reducible rfl)) ?_
            try simp only [Act.put, List.getElem_toArray, List.getElem_cons_succ, List.getElem_cons_zero, List.setIfInBounds_toArray, List.set_cons_zero, List.set_cons_succ]
            refine wpAnyG_take (oi := _) (v := _) (fun _ _ hS_ hb_ => ⟨hS_.1.gr hb_, hS_.2.1.gr hb_, hS_.2.2.1.gr hb_, range_gr hS_.2.2.2 hb_⟩) (i := 4) rfl (by kernel_rfl) (fun _ _ _ h => h) (pureG (by rfl) (by intro w; go_simp; first | done | with_reducible rfl)) ?_
            try simp only [Act.put, List.getElem_toArray, List.getElem_cons_succ, List.getElem_cons_zero, List.setIfInBounds_toArray, List.set_cons_zero, List.set_cons_succ]
            refine wpAnyG_take (oi := _) (v := _) (fun _ _ hS_ hb_ => ⟨hS_.1.gr hb_, hS_.2.1.gr hb_, hS_.2.2.1.gr hb_, range_gr hS_.2.2.2 hb_⟩) (i := 5) rfl (by kernel_rfl) (fun _ _ _ h => h) (worldG (by rfl) (by intro w_ hS_; have q0 := show w_.cell? ⟨wr.heap.size, 0, none⟩ = some (.int .i64 x.N) from hS_.2.1.cell 0; go_simp; first | done | with_reducible rfl)) ?_
            try simp only [Act.put, List.getElem_toArray, List.getElem_cons_succ, List.getElem_cons_zero, List.setIfInBounds_toArray, List.set_cons_zero, List.set_cons_succ]
            refine wpAnyG_take (oi := _) (v := _) (fun _ _ hS_ hb_ => ⟨hS_.1.gr hb_, hS_.2.1.gr hb_, hS_.2.2.1.gr hb_, range_gr hS_.2.2.2 hb_⟩) (i := 6) rfl (by kernel_rfl) (fun _ _ _ h => h) (pureG (by rfl) (by intro w; go_simp; first | done | with_reducible rfl)) ?_
            try simp only [Act.put, List.getElem_toArray, List.getElem_cons_succ, List.getElem_cons_zero, List.setIfInBounds_toArray, List.set_cons_zero, List.set_cons_succ]
            refine wpAnyG_take (oi := _) (v := _) (fun _ _ hS_ hb_ => ⟨hS_.1.gr hb_, hS_.2.1.gr hb_, hS_.2.2.1.gr hb_, range_gr hS_.2.2.2 hb_⟩) (i := 7) rfl (by kernel_rfl) (fun _ _ _ h => h) (worldG (by rfl) (by intro w_ hS_; have q0 := HKC.out w_ hS_.2.1; go_simp; first | done | with_reducible rfl)) ?_
            try simp only [Act.put, List.getElem_toArray, List.getElem_cons_succ, List.getElem_cons_zero, List.setIfInBounds_toArray, List.set_cons_zero, List.set_cons_succ]
            refine wpAnyG_take (oi := _) (v := _) (fun _ _ hS_ hb_ => ⟨hS_.1.gr hb_, hS_.2.1.gr hb_, hS_.2.2.1.gr hb_, range_gr hS_.2.2.2 hb_⟩) (i := 8) rfl (by kernel_rfl) (fun _ _ _ h => h) (pureG (by rfl) (by intro w; have q := hat w; go_simp; first | done | with_reducible rfl)) ?_
            try simp only [Act.put, List.getElem_toArray, List.getElem_cons_succ, List.getElem_cons_zero, List.setIfInBounds_toArray, List.set_cons_zero, List.set_cons_succ]
            refine wpAnyG_take (oi := _) (v := _) (fun _ _ hS_ hb_ => ⟨hS_.1.gr hb_, hS_.2.1.gr hb_, hS_.2.2.1.gr hb_, range_gr hS_.2.2.2 hb_⟩) (i := 9) rfl (by kernel_rfl) (fun _ _ _ h => h) (loadG (by rfl) 70 (.tmp 57) rfl b2 o2 rfl (natsV .u8 x.l) _ (fun w_ hS_ => hS_.2.2.2) Try.underlying70 rfl (infoBl hl)) ?_
            try simp only [Act.put, List.getElem_toArray, List.getElem_cons_succ, List.getElem_cons_zero, List.setIfInBounds_toArray, List.set_cons_zero, List.set_cons_succ]
            refine wpAnyG_putB (i := 10) (by kernel_rfl) (by kernel_rfl) rfl rfl (by rfl) (.tmp 52) (.tmp 54) (.tmp 58) rfl mb i hs c x.N x.l rfl rfl rfl (fun w_ hS_ => hS_.2.2.1) (by unfold maxLen; omega) hxN hl (fun W W4 hS_ hW hg2 hM4 => ?_)
            try simp only [Act.put, List.getElem_toArray, List.getElem_cons_succ, List.getElem_cons_zero, List.setIfInBounds_toArray, List.set_cons_zero, List.set_cons_succ]
            have hf4 : FlB W4 f mb N true 0 false 0 := Blk.grown hS_.1 hg2 (fun e => by injection e with e; omega)
            have hb40 : Below w.heap.size w W := gr_bel HB3.out ((Gr.drew W3).trans hW)
            have hb4 : Below w.heap.size w W4 := hb40.trans (grown_new0 hg2 hmm hb40.size)
            have HF4 := Lib.hid hf4
            have HM4 := Lib.hid hM4
            have HB4 := Lib.hid hb4
            clear hS_ hW hg2 hM4 hf4 hb4 hb40
            go_wp2_with fail
            go_roundw
            case rel => exact ⟨i + 1, _, _, by go_num, by omega, HR.out.symm, HF4.out, HM4.out, HB4.out⟩
            case measure => simp [intOf]; omega
        · have HH := Lib.hid (has_no f mb N 0 0 x.N true false W3 HF3.out (by omega))
          have HR := Lib.hid (newR_bad (r := bs.drop (i + 1)) (c := c) (hs := hs) (.inr hr))
          rw [HNR.out] at HR
          clear hr
          go_wp2_with (go_at_call 27; refine HH.out.mono ?_; rintro e w9 ⟨rfl, rfl⟩)
          go_ret2
          exact newB_no HB3.out 141 HR.out (by omega) rfl
      · have HR := Lib.hid (newR_bad (N := N) (r := bs.drop (i + 1)) (c := c) (hs := hs) (.inl HTW.out))
        rw [HNR.out] at HR
        go_wp2_with fail
        go_ret2
        exact newB_no HB3.out 141 HR.out (by omega) rfl
    · obtain rfl : i = k := by omega
      have hnr : newR N bs (fun _ => false) (fun _ => zB) = (0, hs, c) := by
        have q := HNR.out
        rw [List.drop_of_length_le (by rw [HIN.out.1]; exact Nat.le_refl _)] at q
        exact q.symm.trans rfl
      have HR := Lib.hid hnr
      have HD := Lib.hid (delfunc_any mb i hs c wr HMA.out)
      have c1 := HFL.out.c1
      clear hnr hik
      unfold TurnM at HD
      go_wp2_with fail
      refine HD.out.mono ?_
      rintro e w5 ⟨rfl, hm5, hg5⟩
      have HM5 := Lib.hid hm5
      have HF5 := Lib.hid (show FlB w5 f mb N true 0 false 0 from Blk.grown HFL.out hg5 (fun e => by injection e with e; omega))
      have HB5 := Lib.hid (HBL.out.trans (grown_new0 hg5 hmm HBL.out.size))
      clear hm5 hg5 HD
      go_wp2_with fail
      go_ret2
      unfold NewB
      rw [HR.out]
      exact ⟨HB5.out, fun h => absurd rfl h, fun _ => ⟨f, mb, by omega, hmm, rfl, HF5.out, HM5.out⟩⟩
end Go.Proofs.Ytlgpaglkhgomiaa
