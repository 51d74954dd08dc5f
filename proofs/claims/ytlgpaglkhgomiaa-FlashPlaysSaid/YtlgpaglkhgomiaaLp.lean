/- FlashPlays: the law's walk. Condition: sizes. -/
import Derived.Test.YtlgpaglkhgomiaaKa
import Derived.Test.YtlgpaglkhgomiaaQ1
import Derived.Test.YtlgpaglkhgomiaaQ2
import Derived.Test.YtlgpaglkhgomiaaQ5
import Derived.Test.YtlgpaglkhgomiaaQ6
import Derived.Test.YtlgpaglkhgomiaaAl
namespace Go.Proofs.Ytlgpaglkhgomiaa
open Go.RowKit
set_option linter.unusedVariables false
set_option maxRecDepth 100000
set_option linter.unusedSimpArgs false
theorem info24 : (Try.prog.info? 24).map (·.size) = some 3 := by kernel_rfl
theorem info44 : (Try.prog.info? 44).map (·.size) = some 8 := by kernel_rfl
/-- the error of New on a list of a content -/
noncomputable def nK (N : Int) (ks : List (Int × List Nat)) : Int := nE N (ks.map fun q => ⟨q.1, none, q.2.length, 0, q.2⟩)
theorem nE_keyK {N : Int} {bs : List BlkR} {raw : Bool} {b0 : List BlkR} {w : World} {A : Option Addr} {k : Nat} (h : bs.map BlkR.key = fullK raw b0) (hl : LIn w A k bs) : nE N bs = nK N (fullK raw b0) := by
  unfold nK
  rw [← h]
  refine nE_key ?_ (fun x hx => (hl.2.1 x hx).1.1.1) (fun x hx => ?_)
  · rw [List.map_map, List.map_map]
    rfl
  · obtain ⟨q, _, rfl⟩ := List.mem_map.1 hx
    rfl
/-- any step -/
theorem step_all (x : OpR) (base i : Nat) (s : SR) (w : World) (h : Good w base i s) (hi : i ≤ 1000) (hf : x.fit w) (hlow : ∀ q, x.a = some q → 0 < x.k → q.block < base) :
    Calls Try.prog 11 #[.pointer (some ⟨s.p, 0, none⟩), .agg x.cs.toArray] w (StepOk base i s w) := by
  obtain ⟨kd, n, m, a, k, c, l, raw, d, fr, sz⟩ := x
  obtain ⟨hb, hkd, hn, hm, hfr, hsz⟩ := hf
  change Calls _ _ #[_, .agg #[.int .i64 kd, .int .i64 n, .int .i64 m, .slice a k c, .bool raw, .bool d, .int .u64 (fr : Nat), .int .u64 (sz : Nat)]] _ _
  by_cases h1 : kd = 1
  · subst h1; exact step_1 n m a k c l raw d fr sz base i s w h hi hb hn hm hfr hsz hlow
  by_cases h2 : kd = 2
  · subst h2; exact step_2 n m a k c l raw d fr sz base i s w h hi hb hn hm hfr hsz
  by_cases h3 : kd = 3
  · subst h3; exact step_3 n m a k c l raw d fr sz base i s w h hi hb hn hm hfr hsz
  by_cases h4 : kd = 4
  · subst h4; exact step_4 n m a k c l raw d fr sz base i s w h hi hb hn hm hfr hsz
  by_cases h5 : kd = 5
  · subst h5; exact step_5 n m a k c l raw d fr sz base i s w h hi hb hn hm hfr hsz
  by_cases h6 : kd = 6
  · subst h6; exact step_6 n m a k c l raw d fr sz base i s w h hi hb hn hm hfr hsz
  exact step_0 kd n m a k c l raw d fr sz base i s w h hi hb hn hm hfr hsz ⟨h1, h2, h3, h4, h5, h6⟩
/-- overwritten answers change neither flash -/
theorem over_keep {w w' : World} {base i : Nat} {s : SR} (h : Good w base i s) (hf : Fr w w' (AF s.ans)) : FlB w' s.f s.mb s.N s.on s.cut s.dn s.wr ∧ MAt w' s.mb s.K (hB s.bs) (cOf s.bs) ∧ RfAt w' base s.r s.N (!s.on) s.cut s.dn s.wr s.bs := by
  have no : ∀ j t cs, Blk w j t cs → t ≠ 70 → t ≠ 5 → ¬ AF s.ans j := fun j t cs hb h1 h2 ⟨x, hx, hj⟩ => by
    obtain ⟨t2, cs2, hb2, ht2⟩ := (h.an.1 x hx).blk hj
    rcases ht2 with rfl | rfl
    · exact blk_ne hb hb2 h1 rfl
    · exact blk_ne hb hb2 h2 rfl
  refine ⟨blk_fr h.fl hf (no _ _ _ h.fl (by decide) (by decide)), map_fr h.mp hf (fun ⟨x, hx, hj⟩ => ?_), h.rf.fr hf (fun j t cs hb ht => no j t cs hb (by rcases ht with rfl | rfl <;> decide) (by rcases ht with rfl | rfl <;> decide)) (fun b hb j hj ⟨x, hx, hxj⟩ => h.dj x hx b hb j hxj hj)⟩
  obtain ⟨t2, cs2, hb2, ht2⟩ := (h.an.1 x hx).blk hj
  exact blk_map hb2 h.mp rfl
set_option maxRecDepth 100000 in
set_option maxHeartbeats 12800000 in
theorem play_walk (cb : Int) (P : Option Addr) (k cp : Nat) (raw : Bool) (bs : List BlkR) (PO : Option Addr) (np cpo : Nat) (os : List OpR) (w : World) (hin : LIn w P k bs) (hk : k ≤ 4398046510976) (hcb : I64 cb) (hos : OIn w PO np os) (hnp : np ≤ 140737488355328) :
    Calls Try.prog 3 #[.agg #[.int .i64 cb, .slice P k cp, .bool raw], .slice PO np cpo] w fun e w' => e = .returned (.bool true) ∧ Below w.heap.size w w' := by
  have HIN := Lib.hid hin
  have HOS := Lib.hid hos
  have HX := Lib.hid (Blk.new w 24 [.int .i64 cb, .slice P k cp, .bool raw])
  have HB := Lib.hid ((Below.refl w.heap.size w).alloc (Nat.le_refl _) (.cells #[.int .i64 cb, .slice P k cp, .bool raw] 24))
  clear hin hos
  go_enter Try.func3, Try.ntmps3
  go_upto_region 1 with (fail)
  obtain ⟨w1, hw1⟩ : ∃ w1, w.alloc (.cells #[.int .i64 cb, .slice P k cp, .bool raw] 24) = w1 := ⟨_, rfl⟩
  try rw [hw1]
  rw [hw1] at HX HB
  clear hw1
  refine wp_region_G (fun w_ => Below w.heap.size w w_ ∧ Blk w_ w.heap.size 24 [.int .i64 cb, .slice P k cp, .bool raw]) 9 (by kernel_rfl) ⟨gr_bel HB.out (Gr.drew w1), HX.out.drew⟩ ?_
  refine wpAnyG_take (oi := _) (v := _) (fun _ _ hS_ hb_ => ⟨gr_bel hS_.1 hb_, hS_.2.gr hb_⟩) (i := 0) rfl (by kernel_rfl) (fun _ _ _ h => h) (pureG (by rfl) (by intro w; go_simp; first | done | with_reducible rfl)) ?_
  try simp only [Act.put, List.getElem_toArray, List.getElem_cons_succ, List.getElem_cons_zero, List.setIfInBounds_toArray, List.set_cons_zero, List.set_cons_succ]
  refine wpAnyG_take (oi := _) (v := _) (fun _ _ hS_ hb_ => ⟨gr_bel hS_.1 hb_, hS_.2.gr hb_⟩) (i := 1) rfl (by kernel_rfl) (fun _ _ _ h => h) (worldG (by rfl) (by intro w_ hS_; have q0 := hS_.2.cell 0; go_simp; first | done | with_reducible rfl)) ?_
  try simp only [Act.put, List.getElem_toArray, List.getElem_cons_succ, List.getElem_cons_zero, List.setIfInBounds_toArray, List.set_cons_zero, List.set_cons_succ]
  refine wpAnyG_take (oi := _) (v := _) (fun _ _ hS_ hb_ => ⟨gr_bel hS_.1 hb_, hS_.2.gr hb_⟩) (i := 2) rfl (by kernel_rfl) (fun _ _ _ h => h) (loadG (by rfl) 24 (.tmp 2) rfl w.heap.size 0 rfl [.int .i64 cb, .slice P k cp, .bool raw] _ (fun w_ hS_ => blk_all hS_.2) Try.underlying24 rfl info24) ?_
  try simp only [Act.put, List.getElem_toArray, List.getElem_cons_succ, List.getElem_cons_zero, List.setIfInBounds_toArray, List.set_cons_zero, List.set_cons_succ]
  refine wpAnyG_only (i := 3) (by kernel_rfl) (fun W1 hW1 hS1 => ?_)
  refine wpOp_callE (i := 3) rfl (by rfl) rfl Try.func8 (by kernel_rfl) (by kernel_rfl) #[.agg #[.int .i64 cb, .slice P k cp, .bool raw]] (by simp [Act.eval]) ((full_any cb P k cp raw bs W1 (HIN.out.below hS1.1) hk).mono ?_)
  rintro e W2 ⟨aF, nF, cF, bF, rfl, hlF, hnF, hkF, hb2⟩
  refine ⟨_, rfl, .inr ⟨gr_bel hS1.1 hb2, hS1.2.gr hb2⟩, ?_⟩
  try simp only [Act.put, List.getElem_toArray, List.getElem_cons_succ, List.getElem_cons_zero, List.setIfInBounds_toArray, List.set_cons_zero, List.set_cons_succ]
  refine wpAnyG_only (i := 4) (by kernel_rfl) (fun W3 hW3 hS3 => ?_)
  have hcl := fnew_any cb aF nF cF bF W3 (hlF.below hW3) (by omega)
  have hEk := nE_keyK (N := cb) hkF hlF
  obtain ⟨E, hE⟩ : ∃ E, nE cb bF = E := ⟨_, rfl⟩
  have HEQ := Lib.hid (hEk.symm.trans hE)
  unfold FNew at hcl
  rw [hE] at hcl
  refine wpOp_callE (i := 4) rfl (by rfl) rfl Try.func7 (by kernel_rfl) (by kernel_rfl) #[.int .i64 cb, .slice aF nF cF] (by simp [Act.eval]) (hcl.mono ?_)
  rintro e W4 ⟨hb4, pf, rfl, hno, hyes⟩
  refine ⟨_, rfl, .inr ⟨gr_bel hS3.1 hb4, hS3.2.gr hb4⟩, ?_⟩
  try simp only [Act.put, List.getElem_toArray, List.getElem_cons_succ, List.getElem_cons_zero, List.setIfInBounds_toArray, List.set_cons_zero, List.set_cons_succ]
  refine wpAnyG_run (i := 5) (v := .tuple #[.pointer pf, .int .i64 E]) (by kernel_rfl) rfl (by rfl) (by intro w_ hS_; go_simp; first | done | with_reducible rfl) ?_
  try simp only [Act.put, List.getElem_toArray, List.getElem_cons_succ, List.getElem_cons_zero, List.setIfInBounds_toArray, List.set_cons_zero, List.set_cons_succ]
  refine wpAnyG_take (oi := _) (v := _) (fun _ _ hS_ hb_ => ⟨gr_bel hS_.1 hb_, hS_.2.gr hb_⟩) (i := 6) rfl (by kernel_rfl) (fun _ _ _ h => h) (pureG (by rfl) (by intro w; go_simp; first | done | with_reducible rfl)) ?_
  try simp only [Act.put, List.getElem_toArray, List.getElem_cons_succ, List.getElem_cons_zero, List.setIfInBounds_toArray, List.set_cons_zero, List.set_cons_succ]
  refine wpAnyG_take (oi := _) (v := _) (fun _ _ hS_ hb_ => ⟨gr_bel hS_.1 hb_, hS_.2.gr hb_⟩) (i := 7) rfl (by kernel_rfl) (fun _ _ _ h => h) (pureG (by rfl) (by intro w; go_simp; first | done | with_reducible rfl)) ?_
  try simp only [Act.put, List.getElem_toArray, List.getElem_cons_succ, List.getElem_cons_zero, List.setIfInBounds_toArray, List.set_cons_zero, List.set_cons_succ]
  refine wpAnyG_run (i := 8) (v := .pointer pf) (by kernel_rfl) rfl (by rfl) (by intro w_ hS_; go_simp; first | done | with_reducible rfl) ?_
  try simp only [Act.put, List.getElem_toArray, List.getElem_cons_succ, List.getElem_cons_zero, List.setIfInBounds_toArray, List.set_cons_zero, List.set_cons_succ]
  refine wpAnyG_run (i := 9) (v := .int .i64 E) (by kernel_rfl) rfl (by rfl) (by intro w_ hS_; go_simp; first | done | with_reducible rfl) ?_
  try simp only [Act.put, List.getElem_toArray, List.getElem_cons_succ, List.getElem_cons_zero, List.setIfInBounds_toArray, List.set_cons_zero, List.set_cons_succ]
  refine wpAnyG_done (by kernel_rfl) (fun WA hW9 => ?_) _
  have HXA := Lib.hid ((hS3.2.gr hb4).gr hW9)
  have HBA := Lib.hid (gr_bel (gr_bel hS3.1 hb4) hW9)
  have HNO := Lib.hid hno
  have HYA := Lib.hid (show E = 0 → ∃ f mb bs1, pf = some ⟨f, 0, none⟩ ∧ w.heap.size ≤ f ∧ w.heap.size ≤ mb ∧ 1 ≤ cb ∧ cb ≤ 1048576 ∧ FlB WA f mb cb true 0 false 0 ∧ MAt WA mb nF (hB bs1) (cOf bs1) ∧ bs1.map BlkR.key = fullK raw bs ∧ bs1.length = nF from fun h0 => by
    obtain ⟨f, mb, h1, h2, h3, h4, h5, h6, h7⟩ := hyes h0
    have := hS3.1.size
    exact ⟨f, mb, bF, h1, by omega, by omega, h4, h5, h6.gr hW9, h7.gr hW9, hkF, hlF.1⟩)
  clear hW1 hS1 hlF hnF hkF hb2 hW3 hS3 hcl hEk hE hb4 hno hyes hW9
  go_upto_region 2 with (fail)
  refine wp_region_G (fun w_ => Below w.heap.size w w_ ∧ Blk w_ w.heap.size 24 [.int .i64 cb, .slice P k cp, .bool raw]) 9 (by kernel_rfl) ⟨gr_bel HBA.out (Gr.drew WA), HXA.out.drew⟩ ?_
  refine wpAnyG_take (oi := _) (v := _) (fun _ _ hS_ hb_ => ⟨gr_bel hS_.1 hb_, hS_.2.gr hb_⟩) (i := 0) rfl (by kernel_rfl) (fun _ _ _ h => h) (pureG (by rfl) (by intro w; go_simp; first | done | with_reducible rfl)) ?_
  try simp only [Act.put, List.getElem_toArray, List.getElem_cons_succ, List.getElem_cons_zero, List.setIfInBounds_toArray, List.set_cons_zero, List.set_cons_succ]
  refine wpAnyG_take (oi := _) (v := _) (fun _ _ hS_ hb_ => ⟨gr_bel hS_.1 hb_, hS_.2.gr hb_⟩) (i := 1) rfl (by kernel_rfl) (fun _ _ _ h => h) (worldG (by rfl) (by intro w_ hS_; have q0 := hS_.2.cell 0; go_simp; first | done | with_reducible rfl)) ?_
  try simp only [Act.put, List.getElem_toArray, List.getElem_cons_succ, List.getElem_cons_zero, List.setIfInBounds_toArray, List.set_cons_zero, List.set_cons_succ]
  refine wpAnyG_take (oi := _) (v := _) (fun _ _ hS_ hb_ => ⟨gr_bel hS_.1 hb_, hS_.2.gr hb_⟩) (i := 2) rfl (by kernel_rfl) (fun _ _ _ h => h) (loadG (by rfl) 24 (.tmp 2) rfl w.heap.size 0 rfl [.int .i64 cb, .slice P k cp, .bool raw] _ (fun w_ hS_ => blk_all hS_.2) Try.underlying24 rfl info24) ?_
  try simp only [Act.put, List.getElem_toArray, List.getElem_cons_succ, List.getElem_cons_zero, List.setIfInBounds_toArray, List.set_cons_zero, List.set_cons_succ]
  refine wpAnyG_only (i := 3) (by kernel_rfl) (fun W1 hW1 hS1 => ?_)
  refine wpOp_callE (i := 3) rfl (by rfl) rfl Try.func8 (by kernel_rfl) (by kernel_rfl) #[.agg #[.int .i64 cb, .slice P k cp, .bool raw]] (by simp [Act.eval]) ((full_any cb P k cp raw bs W1 (HIN.out.below hS1.1) hk).mono ?_)
  rintro e W2 ⟨aF, nF, cF, bF, rfl, hlF, hnF, hkF, hb2⟩
  refine ⟨_, rfl, .inr ⟨gr_bel hS1.1 hb2, hS1.2.gr hb2⟩, ?_⟩
  try simp only [Act.put, List.getElem_toArray, List.getElem_cons_succ, List.getElem_cons_zero, List.setIfInBounds_toArray, List.set_cons_zero, List.set_cons_succ]
  refine wpAnyG_only (i := 4) (by kernel_rfl) (fun W3 hW3 hS3 => ?_)
  have hcl := rnew_all cb aF nF cF bF W3 (hlF.below hW3) (by omega)
  have hEk := nE_keyK (N := cb) hkF hlF
  unfold RNew at hcl
  rw [hEk, HEQ.out] at hcl
  refine wpOp_callE (i := 4) rfl (by rfl) rfl Try.func9 (by kernel_rfl) (by kernel_rfl) #[.int .i64 cb, .slice aF nF cF] (by simp [Act.eval]) (hcl.mono ?_)
  rintro e W4 ⟨hb4, pr, rfl, hyes⟩
  refine ⟨_, rfl, .inr ⟨gr_bel hS3.1 hb4, hS3.2.gr hb4⟩, ?_⟩
  try simp only [Act.put, List.getElem_toArray, List.getElem_cons_succ, List.getElem_cons_zero, List.setIfInBounds_toArray, List.set_cons_zero, List.set_cons_succ]
  refine wpAnyG_run (i := 5) (v := .tuple #[.pointer pr, .int .i64 E]) (by kernel_rfl) rfl (by rfl) (by intro w_ hS_; go_simp; first | done | with_reducible rfl) ?_
  try simp only [Act.put, List.getElem_toArray, List.getElem_cons_succ, List.getElem_cons_zero, List.setIfInBounds_toArray, List.set_cons_zero, List.set_cons_succ]
  refine wpAnyG_take (oi := _) (v := _) (fun _ _ hS_ hb_ => ⟨gr_bel hS_.1 hb_, hS_.2.gr hb_⟩) (i := 6) rfl (by kernel_rfl) (fun _ _ _ h => h) (pureG (by rfl) (by intro w; go_simp; first | done | with_reducible rfl)) ?_
  try simp only [Act.put, List.getElem_toArray, List.getElem_cons_succ, List.getElem_cons_zero, List.setIfInBounds_toArray, List.set_cons_zero, List.set_cons_succ]
  refine wpAnyG_take (oi := _) (v := _) (fun _ _ hS_ hb_ => ⟨gr_bel hS_.1 hb_, hS_.2.gr hb_⟩) (i := 7) rfl (by kernel_rfl) (fun _ _ _ h => h) (pureG (by rfl) (by intro w; go_simp; first | done | with_reducible rfl)) ?_
  try simp only [Act.put, List.getElem_toArray, List.getElem_cons_succ, List.getElem_cons_zero, List.setIfInBounds_toArray, List.set_cons_zero, List.set_cons_succ]
  refine wpAnyG_run (i := 8) (v := .pointer pr) (by kernel_rfl) rfl (by rfl) (by intro w_ hS_; go_simp; first | done | with_reducible rfl) ?_
  try simp only [Act.put, List.getElem_toArray, List.getElem_cons_succ, List.getElem_cons_zero, List.setIfInBounds_toArray, List.set_cons_zero, List.set_cons_succ]
  refine wpAnyG_run (i := 9) (v := .int .i64 E) (by kernel_rfl) rfl (by rfl) (by intro w_ hS_; go_simp; first | done | with_reducible rfl) ?_
  try simp only [Act.put, List.getElem_toArray, List.getElem_cons_succ, List.getElem_cons_zero, List.setIfInBounds_toArray, List.set_cons_zero, List.set_cons_succ]
  refine wpAnyG_done (by kernel_rfl) (fun WB hW9 => ?_) _
  have HBB := Lib.hid (gr_bel (gr_bel hS3.1 hb4) hW9)
  have HYB := Lib.hid (show E = 0 → ∃ f mb p0 r bs2, pf = some ⟨f, 0, none⟩ ∧ pr = some ⟨r, 0, none⟩ ∧ w.heap.size ≤ f ∧ w.heap.size ≤ mb ∧ w.heap.size ≤ r ∧ 1 ≤ cb ∧ cb ≤ 1048576 ∧ FlB WB f mb cb true 0 false 0 ∧ MAt WB mb p0 (hB bs2) (cOf bs2) ∧ RfAt WB w.heap.size r cb false 0 false 0 bs2 ∧ p0 ≤ 1048576 from fun h0 => by
    obtain ⟨f, mb, bs1, h1, h2, h3, h4, h5, h6, h7, h8, h8n⟩ := HYA.out h0
    obtain ⟨r, bs2, k1, k2, k3, k4⟩ := hyes h0
    have hgAB : Gr WA WB := ((((Gr.drew WA).trans hW1).trans hb2).trans hW3).trans (Gr.trans hb4 hW9)
    have hkk : bs1.map BlkR.key = bs2.map BlkR.key := by rw [h8, k4, hkF]
    have hco := cOf_key bs1 bs2 hkk
    have hhb : hB bs1 = hB bs2 := by funext x; unfold hB; rw [hco]
    have hs3 := hS3.1.size
    have hfw := few (fun x hx => (k3.2.1 x hx).2) k3.2.2 h5
    have hl12 : bs1.length = bs2.length := by simpa using congrArg List.length hkk
    exact ⟨f, mb, _, r, bs2, h1, k1, h2, h3, by omega, h4, h5, h6.gr hgAB, by have q := h7.gr hgAB; rwa [hco, hhb] at q, (k3.low hs3).below hW9, by omega⟩)
  clear hW1 hS1 hlF hnF hkF hb2 hW3 hS3 hcl hEk hb4 hyes hW9 HYA HXA HBA
  have HAL := Lib.hid (fun w' => alive_any w')
  unfold NewIs at HAL
  by_cases hE0 : E = 0
  · subst hE0
    obtain ⟨f, mb, K, r, bs2, rfl, rfl, hf, hmb, hr, hc1, hc2, hfl, hma, hrf, hK⟩ := HYB.out rfl
    have HF := Lib.hid hfl
    have HM := Lib.hid hma
    have HR := Lib.hid hrf
    clear HYB HNO HEQ hfl hma hrf
    go_wp2_with fail
    refine (HAL.out _).mono ?_
    rintro e w4 ⟨rfl, hb4⟩
    have HF4 := Lib.hid (HF.out.gr hb4)
    have HM4 := Lib.hid (HM.out.gr hb4)
    have HR4 := Lib.hid (HR.out.below hb4)
    have HB4 := Lib.hid (gr_bel HBB.out hb4)
    have hsz4 := HB4.out.size
    obtain ⟨p, hp⟩ : ∃ p, w4.heap.size = p := ⟨_, rfl⟩
    obtain ⟨w5, hw5⟩ : ∃ w5, w4.alloc (.cells #[.pointer (some ⟨f, 0, none⟩), .pointer (some ⟨r, 0, none⟩), .slice none 0 0, .slice none 0 0] 39) = w5 := ⟨_, rfl⟩
    have hb5 : Below w4.heap.size w4 w5 := hw5 ▸ (Below.refl _ _).alloc (Nat.le_refl _) _
    have HB5 := Lib.hid (gr_bel HB4.out hb5)
    have HG5 := Lib.hid (show Good w5 w.heap.size 0 ⟨f, mb, r, p, cb, true, 0, false, 0, bs2, [], K⟩ from {
      fl := HF4.out.gr hb5
      mp := HM4.out.gr hb5
      rf := HR4.out.below hb5
      pr := ⟨none, 0, none, 0, by rw [← hw5, ← hp]; exact Blk.new w4 _ _, ⟨rfl, .inl ⟨rfl, rfl⟩⟩, ⟨rfl, .inl ⟨rfl, rfl⟩⟩⟩
      an := ⟨fun x hx => (by cases hx), List.Pairwise.nil⟩
      dj := fun x hx => (by cases hx)
      lo := ⟨hf, hmb, hr, by show w.heap.size ≤ p; omega, HB5.out.size, fun x hx => (by cases hx)⟩
      nb := ⟨hc1, hc2, by show (0 : Int) ≤ 0; omega, by show (0 : Int) ≤ _; omega, by show (0 : Int) ≤ 0; omega, by show (0 : Int) ≤ _; omega, by show K ≤ _; omega, by show 0 ≤ _; omega⟩ })
    have HW5 := Lib.hid hw5
    have HP5 := Lib.hid hp
    clear hb4 hb5 hp hw5 HF HM HR HF4 HM4 HR4 HB4 HAL HBB hsz4
    go_wp2_with fail
    try rw [HP5.out]
    try rw [HW5.out]
    go_loopw [10] (fun v10 wr => ∃ (i : Nat) (s : SR), v10 = .int .i64 i ∧ i ≤ np ∧ i ≤ 400 ∧ Good wr w.heap.size i s ∧ s.f = f ∧ s.r = r ∧ s.p = p ∧ Below w.heap.size w wr) (fun v10 _ => np - (intOf v10).toNat)
    case atStart => exact ⟨0, _, rfl, Nat.zero_le _, Nat.zero_le _, HG5.out, rfl, rfl, rfl, HB5.out⟩
    case round =>
      obtain ⟨i, s, rfl, hi, hi4, hg, rfl, rfl, rfl, hbel⟩ := hrel
      have HG := Lib.hid hg
      have HBL := Lib.hid hbel
      clear hg hbel
      by_cases hik : i < np ∧ i < 400
      · have hik1 : (i : Int) < (np : Int) := by omega
        have hik2 : (i : Int) < 400 := by omega
        obtain ⟨b, off, rfl, hcell⟩ := HOS.out.2.2.resolve_left (by omega)
        obtain ⟨x, hx⟩ : ∃ x, os[i]? = some x := ⟨_, List.getElem?_eq_getElem (by rw [HOS.out.1]; exact hik.1)⟩
        have hxf := HOS.out.2.1 x (List.mem_of_getElem? hx)
        have HRG := Lib.hid (range_gr (hcell i x hx) HBL.out)
        have HST := Lib.hid (step_all x w.heap.size i s wr HG.out (by omega) (hxf.below HBL.out) (fun q hq hk0 => by
          obtain ⟨b2, o2, e2, hc2⟩ := hxf.1.1.2.2.2.resolve_left (by omega)
          rw [hq] at e2
          injection e2 with e2
          subst e2
          exact World.block_lt_of_cell? w _ (hc2 0 hk0)))
        clear hcell hx hxf hik
        go_wp2_with (refine ldM rfl 44 (.tmp 62) rfl b (off + i * 8) rfl x.cs _ HRG.out Try.underlying44 rfl info44 ?_)
        refine HST.out.mono ?_
        rintro e w6 ⟨rfl, s6, hg6, hf6, hr6, hp6, hb6⟩
        have HG6 := Lib.hid hg6
        have HB6 := Lib.hid (HBL.out.trans hb6)
        have HF6 := Lib.hid hf6
        have HR6 := Lib.hid hr6
        have HP6 := Lib.hid hp6
        have HON := Lib.hid (fun nq : Nat => hf6 ▸ on_any s6.f s6.mb s6.N s6.cut s6.wr s6.on s6.dn (w6.drewN nq) hg6.fl)
        have HWR := Lib.hid (fun nq : Nat => hf6 ▸ writes_any s6.f s6.mb s6.N s6.cut s6.wr s6.on s6.dn (w6.drewN nq) hg6.fl)
        have HSI := Lib.hid (fun nq : Nat => hf6 ▸ size_any s6.f s6.mb s6.N s6.cut s6.wr s6.on s6.dn (w6.drewN nq) hg6.fl)
        obtain ⟨aR, cR, r0, r1, r2, r3, r4, r5, _, _⟩ := hg6.rf.cells
        rw [hr6] at r0 r2 r5
        have t1 : (s6.on == !s6.on) = false := by cases s6.on <;> rfl
        have t2 : (s6.wr != s6.wr) = false := by simp
        have t3 : (s6.N != s6.N) = false := by simp
        clear hg6 hf6 hr6 hp6 hb6 HST r1 r3 r4
        go_wp2_with fail
        go_quiet (first | (go_at_call 12; exact Calls.quiet_of_same (flipC (HON.out _))) | (go_at_call 13; exact Calls.quiet_of_same (flipC (HWR.out _))) | (go_at_call 14; exact Calls.quiet_of_same (flipC (HSI.out _))))
        have HG7 := Lib.hid (HG6.out.below (below_drewN (Below.refl w6.heap.size w6) nq))
        have HB7 := Lib.hid (below_drewN HB6.out nq)
        go_wp2_with fail
        go_roundw
        case rel => exact ⟨i + 1, s6, by go_num, by omega, by omega, HG7.out, HF6.out, HR6.out, HP6.out, HB7.out⟩
        case measure => simp [intOf]; omega
      · have hnb := HG.out.nb
        have HOV := Lib.hid (over_any w.heap.size s.p _ _ s.ans wr HG.out.pr HG.out.an (by omega))
        clear hnb
        have hcond : ¬ (i : Int) < (np : Int) ∨ ¬ (i : Int) < 400 := by omega
        clear hik
        by_cases hik1 : (i : Int) < (np : Int)
        · have hik2 : ¬ (i : Int) < 400 := by omega
          clear hcond
          go_wp2_with fail
          refine HOV.out.mono ?_
          rintro e w6 ⟨rfl, hpr6, hf6⟩
          have hgw := HG.out
          obtain ⟨hfB, hmB, hrB⟩ := over_keep hgw hf6
          have hb6 := HBL.out.trans (frB hf6 (fun j ⟨x, hx, hj⟩ => hgw.lo.2.2.2.2.2 x hx j hj) hgw.lo.2.2.2.2.1)
          have hnb := hgw.nb
          have HFBK := Lib.hid (fblocks_any s.f s.mb s.K s.N s.cut s.wr s.on s.dn _ _ w6 hfB hmB (by omega))
          have HB6 := Lib.hid hb6
          have HRB := Lib.hid hrB
          clear hpr6 hf6 hgw hfB hmB hrB hb6 HOV
          go_wp2_with fail
          refine HFBK.out.mono ?_
          rintro e w7 ⟨aA, nA, cA, bA, rfl, hlA, hnA, htA, hb7⟩
          have HRBK := Lib.hid (rblocks_any w.heap.size s.r s.N s.cut s.wr (!s.on) s.dn s.bs w7 (HRB.out.below hb7) (by omega))
          have HLA := Lib.hid hlA
          have HTA := Lib.hid htA
          have HB7 := Lib.hid (gr_bel HB6.out hb7)
          clear hlA htA hb7 HFBK
          go_wp2_with fail
          refine HRBK.out.mono ?_
          rintro e w8 ⟨aB, nB, cB, bB, rfl, hlB, hnB, htB, hb8⟩
          have HSB := Lib.hid (sameBl_any w8 aA aB nA cA nB cB bA bB (HLA.out.below hb8) hlB (told_eq HTA.out htB) (by omega))
          have HB8 := Lib.hid (gr_bel HB7.out hb8)
          clear hlB htB hb8 HRBK hnb
          go_wp2_with fail
          refine HSB.out.mono ?_
          rintro e w9 ⟨rfl, hb9⟩
          have HB9 := Lib.hid (gr_bel HB8.out hb9)
          clear hb9
          go_wp2_with fail
          go_ret
          exact ⟨rfl, HB9.out⟩
        · clear hcond
          go_wp2_with fail
          refine HOV.out.mono ?_
          rintro e w6 ⟨rfl, hpr6, hf6⟩
          have hgw := HG.out
          obtain ⟨hfB, hmB, hrB⟩ := over_keep hgw hf6
          have hb6 := HBL.out.trans (frB hf6 (fun j ⟨x, hx, hj⟩ => hgw.lo.2.2.2.2.2 x hx j hj) hgw.lo.2.2.2.2.1)
          have hnb := hgw.nb
          have HFBK := Lib.hid (fblocks_any s.f s.mb s.K s.N s.cut s.wr s.on s.dn _ _ w6 hfB hmB (by omega))
          have HB6 := Lib.hid hb6
          have HRB := Lib.hid hrB
          clear hpr6 hf6 hgw hfB hmB hrB hb6 HOV
          go_wp2_with fail
          refine HFBK.out.mono ?_
          rintro e w7 ⟨aA, nA, cA, bA, rfl, hlA, hnA, htA, hb7⟩
          have HRBK := Lib.hid (rblocks_any w.heap.size s.r s.N s.cut s.wr (!s.on) s.dn s.bs w7 (HRB.out.below hb7) (by omega))
          have HLA := Lib.hid hlA
          have HTA := Lib.hid htA
          have HB7 := Lib.hid (gr_bel HB6.out hb7)
          clear hlA htA hb7 HFBK
          go_wp2_with fail
          refine HRBK.out.mono ?_
          rintro e w8 ⟨aB, nB, cB, bB, rfl, hlB, hnB, htB, hb8⟩
          have HSB := Lib.hid (sameBl_any w8 aA aB nA cA nB cB bA bB (HLA.out.below hb8) hlB (told_eq HTA.out htB) (by omega))
          have HB8 := Lib.hid (gr_bel HB7.out hb8)
          clear hlB htB hb8 HRBK hnb
          go_wp2_with fail
          refine HSB.out.mono ?_
          rintro e w9 ⟨rfl, hb9⟩
          have HB9 := Lib.hid (gr_bel HB8.out hb9)
          clear hb9
          go_wp2_with fail
          go_ret
          exact ⟨rfl, HB9.out⟩
  · have hpf := HNO.out hE0
    subst hpf
    have t1 : (E != E) = false := by simp
    have t2 : (E == 0) = false := by simpa using hE0
    have t3 : (E != 0) = true := by simpa using hE0
    clear HYB HNO HEQ
    go_wp2_with fail
    refine (HAL.out _).mono ?_
    rintro e w4 ⟨rfl, hb4⟩
    have HB4 := Lib.hid (gr_bel HBB.out hb4)
    clear hb4
    go_wp2_with fail
    go_ret
    exact ⟨rfl, HB4.out⟩
end Go.Proofs.Ytlgpaglkhgomiaa
