/- FusePlays: the steps of a script. No condition. -/
import Derived.Test.YtcjhjengggfpeaaLa
import Derived.Test.YtcjhjengggfpeaaSb
import Derived.Test.YtcjhjengggfpeaaGl
namespace Go.Proofs.Ytcjhjengggfpeaa
open Go.RowKit
set_option linter.unusedVariables false
set_option maxRecDepth 100000
set_option linter.unusedSimpArgs false
/-- both hold the same -/
structure Good (base a r : Nat) (l : List (Nat × Bool)) (c : List Nat) (w : World) : Prop where
  fu : FuAt w a l c
  ru : RuAt w r l c
  ok : FuOk l c
  ha : base ≤ a
  hr : base ≤ r
  sz : base ≤ w.heap.size
theorem Good.grow {base a r : Nat} {l : List (Nat × Bool)} {c : List Nat} {w w' : World} (h : Good base a r l c w) (hb : Below w.heap.size w w') : Good base a r l c w' :=
  ⟨Blk.below' h.fu hb, Blk.below' h.ru hb, h.ok, h.ha, h.hr, Nat.le_trans h.sz hb.size⟩
/-- a step: both answer alike, and hold the same again -/
def StepOk (base a r : Nat) (w : World) (e : Ending) (w' : World) : Prop := e = .returned (.bool true) ∧ (∃ l c, Good base a r l c w') ∧ Below base w w'
theorem bel_gr {B : Nat} {a b c : World} (h : Below B a b) (hB : B ≤ b.heap.size) (k : Gr b c) : Below B a c := h.trans (Below.mono k hB)
set_option maxHeartbeats 6400000 in
theorem step_1 (i n : Int) (v cc : Nat) (base a r : Nat) (l : List (Nat × Bool)) (c : List Nat) (w : World) (h : Good base a r l c w) (hi : I64 i) (hn : I64 n) (hv : v < 256) (hcc : cc < 4294967296) :
    Calls Try.prog 12 #[.pointer (some ⟨a, 0, none⟩), .pointer (some ⟨r, 0, none⟩), .agg #[.int .i64 1, .int .i64 i, .int .i64 n, .int .u8 (v : Nat), .int .u32 (cc : Nat)]] w (StepOk base a r w) := by
  have ha : Below base w (w.alloc (.cells #[.int .i64 1, .int .i64 i, .int .i64 n, .int .u8 (v : Nat), .int .u32 (cc : Nat)] 34)) := (Below.refl _ _).alloc h.sz _
  have HX := Lib.hid (Blk.new w 34 [.int .i64 1, .int .i64 i, .int .i64 n, .int .u8 (v : Nat), .int .u32 (cc : Nat)])
  have HA := Lib.hid ha
  have HG := Lib.hid (h.grow ((Below.refl _ _).alloc (Nat.le_refl _) (.cells #[.int .i64 1, .int .i64 i, .int .i64 n, .int .u8 (v : Nat), .int .u32 (cc : Nat)] 34)))
  have HI := Lib.hid hi
  have HV := Lib.hid hv
  have HCC := Lib.hid hcc
  have HLT := Lib.hid (show base ≤ w.heap.size ∧ a < w.heap.size ∧ r < w.heap.size from ⟨h.sz, Blk.lt h.fu, Blk.lt h.ru⟩)
  clear h ha hi hn hv hcc
  go_enter Try.func12, Try.ntmps12
  go_upto_region 3 with (fail)
  obtain ⟨w1, hw1⟩ : ∃ w1, w.alloc (.cells #[.int .i64 1, .int .i64 i, .int .i64 n, .int .u8 (v : Nat), .int .u32 (cc : Nat)] 34) = w1 := ⟨_, rfl⟩
  try rw [hw1]
  rw [hw1] at HX HA HG
  clear hw1
  obtain ⟨E, hE⟩ : ∃ E, burnE l i = E := ⟨_, rfl⟩
  have HE := Lib.hid hE
  clear hE
  refine wp_region_L (fun w_ => Blk w_ w.heap.size 34 [.int .i64 1, .int .i64 i, .int .i64 n, .int .u8 (v : Nat), .int .u32 (cc : Nat)]) [] [] (by kernel_rfl) HX.out.drew ?_
  refine wpAnyL_take (oi := _) (v := _) (fun _ _ hS_ hb_ => hS_.gr hb_) (i := 0) rfl (by kernel_rfl) (fun _ _ _ h => h) (pureG (by rfl) (by intro w; go_simp; first | done | with_reducible rfl)) ?_
  try simp only [Act.put, List.getElem_toArray, List.getElem_cons_succ, List.getElem_cons_zero, List.setIfInBounds_toArray, List.set_cons_zero, List.set_cons_succ]
  refine wpAnyL_take (oi := _) (v := _) (fun _ _ hS_ hb_ => hS_.gr hb_) (i := 1) rfl (by kernel_rfl) (fun _ _ _ h => h) (pureG (by rfl) (by intro w; go_simp; first | done | with_reducible rfl)) ?_
  try simp only [Act.put, List.getElem_toArray, List.getElem_cons_succ, List.getElem_cons_zero, List.setIfInBounds_toArray, List.set_cons_zero, List.set_cons_succ]
  refine wpAnyL_take (oi := _) (v := _) (fun _ _ hS_ hb_ => hS_.gr hb_) (i := 2) rfl (by kernel_rfl) (fun _ _ _ h => h) (worldG (by rfl) (by intro w_ hS_; have q0 : w_.cell? ⟨w.heap.size, 1, none⟩ = some (.int .i64 i) := hS_.cell 1; go_simp; first | done | with_reducible rfl)) ?_
  try simp only [Act.put, List.getElem_toArray, List.getElem_cons_succ, List.getElem_cons_zero, List.setIfInBounds_toArray, List.set_cons_zero, List.set_cons_succ]
  refine wpAnyL_take (oi := _) (v := _) (fun _ _ hS_ hb_ => hS_.gr hb_) (i := 3) rfl (by kernel_rfl) (fun _ _ _ h => h) (pureG (by rfl) (by intro w; go_simp; first | done | with_reducible rfl)) ?_
  try simp only [Act.put, List.getElem_toArray, List.getElem_cons_succ, List.getElem_cons_zero, List.setIfInBounds_toArray, List.set_cons_zero, List.set_cons_succ]
  refine wpAnyL_take (oi := _) (v := _) (fun _ _ hS_ hb_ => hS_.gr hb_) (i := 4) rfl (by kernel_rfl) (fun _ _ _ h => h) (worldG (by rfl) (by intro w_ hS_; have q0 : w_.cell? ⟨w.heap.size, 3, none⟩ = some (.int .u8 (v : Nat)) := hS_.cell 3; go_simp; first | done | with_reducible rfl)) ?_
  try simp only [Act.put, List.getElem_toArray, List.getElem_cons_succ, List.getElem_cons_zero, List.setIfInBounds_toArray, List.set_cons_zero, List.set_cons_succ]
  refine wpAnyL_take (oi := _) (v := _) (fun _ _ hS_ hb_ => hS_.gr hb_) (i := 6) rfl (by kernel_rfl) (fun _ _ _ h => h) (pureG (by rfl) (by intro w; go_simp; first | done | with_reducible rfl)) ?_
  try simp only [Act.put, List.getElem_toArray, List.getElem_cons_succ, List.getElem_cons_zero, List.setIfInBounds_toArray, List.set_cons_zero, List.set_cons_succ]
  refine wpAnyL_take (oi := _) (v := _) (fun _ _ hS_ hb_ => hS_.gr hb_) (i := 7) rfl (by kernel_rfl) (fun _ _ _ h => h) (pureG (by rfl) (by intro w; go_simp; first | done | with_reducible rfl)) ?_
  try simp only [Act.put, List.getElem_toArray, List.getElem_cons_succ, List.getElem_cons_zero, List.setIfInBounds_toArray, List.set_cons_zero, List.set_cons_succ]
  refine wpAnyL_take (oi := _) (v := _) (fun _ _ hS_ hb_ => hS_.gr hb_) (i := 8) rfl (by kernel_rfl) (fun _ _ _ h => h) (worldG (by rfl) (by intro w_ hS_; have q0 : w_.cell? ⟨w.heap.size, 1, none⟩ = some (.int .i64 i) := hS_.cell 1; go_simp; first | done | with_reducible rfl)) ?_
  try simp only [Act.put, List.getElem_toArray, List.getElem_cons_succ, List.getElem_cons_zero, List.setIfInBounds_toArray, List.set_cons_zero, List.set_cons_succ]
  refine wpAnyL_take (oi := _) (v := _) (fun _ _ hS_ hb_ => hS_.gr hb_) (i := 9) rfl (by kernel_rfl) (fun _ _ _ h => h) (pureG (by rfl) (by intro w; go_simp; first | done | with_reducible rfl)) ?_
  try simp only [Act.put, List.getElem_toArray, List.getElem_cons_succ, List.getElem_cons_zero, List.setIfInBounds_toArray, List.set_cons_zero, List.set_cons_succ]
  refine wpAnyL_take (oi := _) (v := _) (fun _ _ hS_ hb_ => hS_.gr hb_) (i := 10) rfl (by kernel_rfl) (fun _ _ _ h => h) (worldG (by rfl) (by intro w_ hS_; have q0 : w_.cell? ⟨w.heap.size, 3, none⟩ = some (.int .u8 (v : Nat)) := hS_.cell 3; go_simp; first | done | with_reducible rfl)) ?_
  try simp only [Act.put, List.getElem_toArray, List.getElem_cons_succ, List.getElem_cons_zero, List.setIfInBounds_toArray, List.set_cons_zero, List.set_cons_succ]
  refine wpAnyL_one (i := 5) (by kernel_rfl) rfl (fun W1 hW1 hS1 => ?_)
  · have h1 : FuAt W1 a l c := Blk.gr HG.out.fu ((Gr.drew w1).trans hW1)
    have h2 : RuAt W1 r l c := Blk.gr HG.out.ru ((Gr.drew w1).trans hW1)
    have b1 := bel_gr HA.out HG.out.sz ((Gr.drew w1).trans hW1)
    have s1 : base ≤ W1.heap.size := Nat.le_trans HG.out.sz ((Gr.drew w1).trans hW1).size
    have cl := burn_any a l c i v W1 h1 HG.out.ok HI.out
    rw [HE.out] at cl
    refine wpOp_callE (i := 5) rfl (by rfl) rfl Try.func9 (by kernel_rfl) (by kernel_rfl) #[.pointer (some ⟨a, 0, none⟩), .int .i64 i, .int .u8 (v : Nat)] (by simp [Act.eval]) (cl.mono ?_)
    rintro e W2 ⟨rfl, hf2, hg2⟩
    refine ⟨_, rfl, hS1.grown hg2 (fun e => by injection e with e; have := HLT.out; omega), ?_⟩
    try simp only [Act.put, List.getElem_toArray, List.getElem_cons_succ, List.getElem_cons_zero, List.setIfInBounds_toArray, List.set_cons_zero, List.set_cons_succ]
    refine wpAnyL_one (i := 11) (by kernel_rfl) rfl (fun W3 hW3 hS3 => ?_)
    have h4 : RuAt W3 r l c := Blk.gr (Blk.grown h2 hg2 (fun e => by injection e with e; exact blk_ne HG.out.fu HG.out.ru (by decide) e.symm)) hW3
    have h3 : FuAt W3 a (burnL l i v) (c) := Blk.gr hf2 hW3
    have b3 := bel_gr (grownB b1 hg2 HG.out.ha s1) (Nat.le_trans s1 hg2.size) hW3
    have s3 : base ≤ W3.heap.size := Nat.le_trans (Nat.le_trans s1 hg2.size) hW3.size
    have cl2 := rburn_any r l c i v W3 h4 HG.out.ok HI.out
    rw [HE.out] at cl2
    refine wpOp_callE (i := 11) rfl (by rfl) rfl Try.func19 (by kernel_rfl) (by kernel_rfl) #[.pointer (some ⟨r, 0, none⟩), .int .i64 i, .int .u8 (v : Nat)] (by simp [Act.eval]) (cl2.mono ?_)
    rintro e W4 ⟨rfl, hf4, hg4⟩
    refine ⟨_, rfl, hS3.grown hg4 (fun e => by injection e with e; have := HLT.out; omega), ?_⟩
    try simp only [Act.put, List.getElem_toArray, List.getElem_cons_succ, List.getElem_cons_zero, List.setIfInBounds_toArray, List.set_cons_zero, List.set_cons_succ]
    refine wpAnyL_take (oi := _) (v := _) (fun _ _ hS_ hb_ => hS_.gr hb_) (i := 12) rfl (by kernel_rfl) (fun _ _ _ h => h) (pureG (by rfl) (by intro w; go_simp; first | done | with_reducible rfl)) ?_
    try simp only [Act.put, List.getElem_toArray, List.getElem_cons_succ, List.getElem_cons_zero, List.setIfInBounds_toArray, List.set_cons_zero, List.set_cons_succ]
    refine wpAnyL_take (oi := _) (v := _) (fun _ _ hS_ hb_ => hS_.gr hb_) (i := 13) rfl (by kernel_rfl) (fun _ _ _ h => h) (pureG (by rfl) (by intro w; go_simp; first | done | with_reducible rfl)) ?_
    try simp only [Act.put, List.getElem_toArray, List.getElem_cons_succ, List.getElem_cons_zero, List.setIfInBounds_toArray, List.set_cons_zero, List.set_cons_succ]
    refine wpAnyL_done (by kernel_rfl) (fun WA hWA => ?_) _
    have h5 : RuAt WA r (burnL l i v) (c) := Blk.gr hf4 hWA
    have h6 : FuAt WA a (burnL l i v) (c) := Blk.gr (Blk.grown h3 hg4 (fun e => by injection e with e; exact blk_ne HG.out.fu HG.out.ru (by decide) e)) hWA
    have b5 := bel_gr (grownB b3 hg4 HG.out.hr s3) (Nat.le_trans s3 hg4.size) hWA
    have s5 : base ≤ WA.heap.size := Nat.le_trans (Nat.le_trans s3 hg4.size) hWA.size
    have HFIN := Lib.hid (show ∃ l2 c2, Good base a r l2 c2 WA from ⟨burnL l i v, c, h6, h5, burn_ok HG.out.ok i v HV.out, HG.out.ha, HG.out.hr, s5⟩)
    have HBF := Lib.hid b5
    clear h1 h2 h3 h4 h5 h6 b1 b3 b5 s1 s3 s5 cl cl2 hf2 hg2 hf4 hg4 hS1 hS3 hW1 hW3 hWA
    go_wp2_with fail
    go_ret
    exact ⟨by simp, HFIN.out, HBF.out⟩
set_option maxHeartbeats 6400000 in
theorem step_5 (i n : Int) (v cc : Nat) (base a r : Nat) (l : List (Nat × Bool)) (c : List Nat) (w : World) (h : Good base a r l c w) (hi : I64 i) (hn : I64 n) (hv : v < 256) (hcc : cc < 4294967296) :
    Calls Try.prog 12 #[.pointer (some ⟨a, 0, none⟩), .pointer (some ⟨r, 0, none⟩), .agg #[.int .i64 5, .int .i64 i, .int .i64 n, .int .u8 (v : Nat), .int .u32 (cc : Nat)]] w (StepOk base a r w) := by
  have ha : Below base w (w.alloc (.cells #[.int .i64 5, .int .i64 i, .int .i64 n, .int .u8 (v : Nat), .int .u32 (cc : Nat)] 34)) := (Below.refl _ _).alloc h.sz _
  have HX := Lib.hid (Blk.new w 34 [.int .i64 5, .int .i64 i, .int .i64 n, .int .u8 (v : Nat), .int .u32 (cc : Nat)])
  have HA := Lib.hid ha
  have HG := Lib.hid (h.grow ((Below.refl _ _).alloc (Nat.le_refl _) (.cells #[.int .i64 5, .int .i64 i, .int .i64 n, .int .u8 (v : Nat), .int .u32 (cc : Nat)] 34)))
  have HI := Lib.hid hi
  have HV := Lib.hid hv
  have HCC := Lib.hid hcc
  have HLT := Lib.hid (show base ≤ w.heap.size ∧ a < w.heap.size ∧ r < w.heap.size from ⟨h.sz, Blk.lt h.fu, Blk.lt h.ru⟩)
  clear h ha hi hn hv hcc
  go_enter Try.func12, Try.ntmps12
  go_upto_region 22 with (fail)
  obtain ⟨w1, hw1⟩ : ∃ w1, w.alloc (.cells #[.int .i64 5, .int .i64 i, .int .i64 n, .int .u8 (v : Nat), .int .u32 (cc : Nat)] 34) = w1 := ⟨_, rfl⟩
  try rw [hw1]
  rw [hw1] at HX HA HG
  clear hw1
  obtain ⟨E, hE⟩ : ∃ E, raisE c i cc = E := ⟨_, rfl⟩
  have HE := Lib.hid hE
  clear hE
  refine wp_region_L (fun w_ => Blk w_ w.heap.size 34 [.int .i64 5, .int .i64 i, .int .i64 n, .int .u8 (v : Nat), .int .u32 (cc : Nat)]) [] [] (by kernel_rfl) HX.out.drew ?_
  refine wpAnyL_take (oi := _) (v := _) (fun _ _ hS_ hb_ => hS_.gr hb_) (i := 0) rfl (by kernel_rfl) (fun _ _ _ h => h) (pureG (by rfl) (by intro w; go_simp; first | done | with_reducible rfl)) ?_
  try simp only [Act.put, List.getElem_toArray, List.getElem_cons_succ, List.getElem_cons_zero, List.setIfInBounds_toArray, List.set_cons_zero, List.set_cons_succ]
  refine wpAnyL_take (oi := _) (v := _) (fun _ _ hS_ hb_ => hS_.gr hb_) (i := 1) rfl (by kernel_rfl) (fun _ _ _ h => h) (pureG (by rfl) (by intro w; go_simp; first | done | with_reducible rfl)) ?_
  try simp only [Act.put, List.getElem_toArray, List.getElem_cons_succ, List.getElem_cons_zero, List.setIfInBounds_toArray, List.set_cons_zero, List.set_cons_succ]
  refine wpAnyL_take (oi := _) (v := _) (fun _ _ hS_ hb_ => hS_.gr hb_) (i := 2) rfl (by kernel_rfl) (fun _ _ _ h => h) (worldG (by rfl) (by intro w_ hS_; have q0 : w_.cell? ⟨w.heap.size, 1, none⟩ = some (.int .i64 i) := hS_.cell 1; go_simp; first | done | with_reducible rfl)) ?_
  try simp only [Act.put, List.getElem_toArray, List.getElem_cons_succ, List.getElem_cons_zero, List.setIfInBounds_toArray, List.set_cons_zero, List.set_cons_succ]
  refine wpAnyL_take (oi := _) (v := _) (fun _ _ hS_ hb_ => hS_.gr hb_) (i := 3) rfl (by kernel_rfl) (fun _ _ _ h => h) (pureG (by rfl) (by intro w; go_simp; first | done | with_reducible rfl)) ?_
  try simp only [Act.put, List.getElem_toArray, List.getElem_cons_succ, List.getElem_cons_zero, List.setIfInBounds_toArray, List.set_cons_zero, List.set_cons_succ]
  refine wpAnyL_take (oi := _) (v := _) (fun _ _ hS_ hb_ => hS_.gr hb_) (i := 4) rfl (by kernel_rfl) (fun _ _ _ h => h) (worldG (by rfl) (by intro w_ hS_; have q0 : w_.cell? ⟨w.heap.size, 4, none⟩ = some (.int .u32 (cc : Nat)) := hS_.cell 4; go_simp; first | done | with_reducible rfl)) ?_
  try simp only [Act.put, List.getElem_toArray, List.getElem_cons_succ, List.getElem_cons_zero, List.setIfInBounds_toArray, List.set_cons_zero, List.set_cons_succ]
  refine wpAnyL_take (oi := _) (v := _) (fun _ _ hS_ hb_ => hS_.gr hb_) (i := 6) rfl (by kernel_rfl) (fun _ _ _ h => h) (pureG (by rfl) (by intro w; go_simp; first | done | with_reducible rfl)) ?_
  try simp only [Act.put, List.getElem_toArray, List.getElem_cons_succ, List.getElem_cons_zero, List.setIfInBounds_toArray, List.set_cons_zero, List.set_cons_succ]
  refine wpAnyL_take (oi := _) (v := _) (fun _ _ hS_ hb_ => hS_.gr hb_) (i := 7) rfl (by kernel_rfl) (fun _ _ _ h => h) (pureG (by rfl) (by intro w; go_simp; first | done | with_reducible rfl)) ?_
  try simp only [Act.put, List.getElem_toArray, List.getElem_cons_succ, List.getElem_cons_zero, List.setIfInBounds_toArray, List.set_cons_zero, List.set_cons_succ]
  refine wpAnyL_take (oi := _) (v := _) (fun _ _ hS_ hb_ => hS_.gr hb_) (i := 8) rfl (by kernel_rfl) (fun _ _ _ h => h) (worldG (by rfl) (by intro w_ hS_; have q0 : w_.cell? ⟨w.heap.size, 1, none⟩ = some (.int .i64 i) := hS_.cell 1; go_simp; first | done | with_reducible rfl)) ?_
  try simp only [Act.put, List.getElem_toArray, List.getElem_cons_succ, List.getElem_cons_zero, List.setIfInBounds_toArray, List.set_cons_zero, List.set_cons_succ]
  refine wpAnyL_take (oi := _) (v := _) (fun _ _ hS_ hb_ => hS_.gr hb_) (i := 9) rfl (by kernel_rfl) (fun _ _ _ h => h) (pureG (by rfl) (by intro w; go_simp; first | done | with_reducible rfl)) ?_
  try simp only [Act.put, List.getElem_toArray, List.getElem_cons_succ, List.getElem_cons_zero, List.setIfInBounds_toArray, List.set_cons_zero, List.set_cons_succ]
  refine wpAnyL_take (oi := _) (v := _) (fun _ _ hS_ hb_ => hS_.gr hb_) (i := 10) rfl (by kernel_rfl) (fun _ _ _ h => h) (worldG (by rfl) (by intro w_ hS_; have q0 : w_.cell? ⟨w.heap.size, 4, none⟩ = some (.int .u32 (cc : Nat)) := hS_.cell 4; go_simp; first | done | with_reducible rfl)) ?_
  try simp only [Act.put, List.getElem_toArray, List.getElem_cons_succ, List.getElem_cons_zero, List.setIfInBounds_toArray, List.set_cons_zero, List.set_cons_succ]
  refine wpAnyL_one (i := 5) (by kernel_rfl) rfl (fun W1 hW1 hS1 => ?_)
  · have h1 : FuAt W1 a l c := Blk.gr HG.out.fu ((Gr.drew w1).trans hW1)
    have h2 : RuAt W1 r l c := Blk.gr HG.out.ru ((Gr.drew w1).trans hW1)
    have b1 := bel_gr HA.out HG.out.sz ((Gr.drew w1).trans hW1)
    have s1 : base ≤ W1.heap.size := Nat.le_trans HG.out.sz ((Gr.drew w1).trans hW1).size
    have cl := raise_any a l c i cc W1 h1 HG.out.ok HI.out
    rw [HE.out] at cl
    refine wpOp_callE (i := 5) rfl (by rfl) rfl Try.func11 (by kernel_rfl) (by kernel_rfl) #[.pointer (some ⟨a, 0, none⟩), .int .i64 i, .int .u32 (cc : Nat)] (by simp [Act.eval]) (cl.mono ?_)
    rintro e W2 ⟨rfl, hf2, hg2⟩
    refine ⟨_, rfl, hS1.grown hg2 (fun e => by injection e with e; have := HLT.out; omega), ?_⟩
    try simp only [Act.put, List.getElem_toArray, List.getElem_cons_succ, List.getElem_cons_zero, List.setIfInBounds_toArray, List.set_cons_zero, List.set_cons_succ]
    refine wpAnyL_one (i := 11) (by kernel_rfl) rfl (fun W3 hW3 hS3 => ?_)
    have h4 : RuAt W3 r l c := Blk.gr (Blk.grown h2 hg2 (fun e => by injection e with e; exact blk_ne HG.out.fu HG.out.ru (by decide) e.symm)) hW3
    have h3 : FuAt W3 a (l) (raisC c i cc) := Blk.gr hf2 hW3
    have b3 := bel_gr (grownB b1 hg2 HG.out.ha s1) (Nat.le_trans s1 hg2.size) hW3
    have s3 : base ≤ W3.heap.size := Nat.le_trans (Nat.le_trans s1 hg2.size) hW3.size
    have cl2 := rraise_any r l c i cc W3 h4 HG.out.ok HI.out
    rw [HE.out] at cl2
    refine wpOp_callE (i := 11) rfl (by rfl) rfl Try.func22 (by kernel_rfl) (by kernel_rfl) #[.pointer (some ⟨r, 0, none⟩), .int .i64 i, .int .u32 (cc : Nat)] (by simp [Act.eval]) (cl2.mono ?_)
    rintro e W4 ⟨rfl, hf4, hg4⟩
    refine ⟨_, rfl, hS3.grown hg4 (fun e => by injection e with e; have := HLT.out; omega), ?_⟩
    try simp only [Act.put, List.getElem_toArray, List.getElem_cons_succ, List.getElem_cons_zero, List.setIfInBounds_toArray, List.set_cons_zero, List.set_cons_succ]
    refine wpAnyL_take (oi := _) (v := _) (fun _ _ hS_ hb_ => hS_.gr hb_) (i := 12) rfl (by kernel_rfl) (fun _ _ _ h => h) (pureG (by rfl) (by intro w; go_simp; first | done | with_reducible rfl)) ?_
    try simp only [Act.put, List.getElem_toArray, List.getElem_cons_succ, List.getElem_cons_zero, List.setIfInBounds_toArray, List.set_cons_zero, List.set_cons_succ]
    refine wpAnyL_take (oi := _) (v := _) (fun _ _ hS_ hb_ => hS_.gr hb_) (i := 13) rfl (by kernel_rfl) (fun _ _ _ h => h) (pureG (by rfl) (by intro w; go_simp; first | done | with_reducible rfl)) ?_
    try simp only [Act.put, List.getElem_toArray, List.getElem_cons_succ, List.getElem_cons_zero, List.setIfInBounds_toArray, List.set_cons_zero, List.set_cons_succ]
    refine wpAnyL_done (by kernel_rfl) (fun WA hWA => ?_) _
    have h5 : RuAt WA r (l) (raisC c i cc) := Blk.gr hf4 hWA
    have h6 : FuAt WA a (l) (raisC c i cc) := Blk.gr (Blk.grown h3 hg4 (fun e => by injection e with e; exact blk_ne HG.out.fu HG.out.ru (by decide) e)) hWA
    have b5 := bel_gr (grownB b3 hg4 HG.out.hr s3) (Nat.le_trans s3 hg4.size) hWA
    have s5 : base ≤ WA.heap.size := Nat.le_trans (Nat.le_trans s3 hg4.size) hWA.size
    have HFIN := Lib.hid (show ∃ l2 c2, Good base a r l2 c2 WA from ⟨l, raisC c i cc, h6, h5, rais_ok HG.out.ok i cc HCC.out, HG.out.ha, HG.out.hr, s5⟩)
    have HBF := Lib.hid b5
    clear h1 h2 h3 h4 h5 h6 b1 b3 b5 s1 s3 s5 cl cl2 hf2 hg2 hf4 hg4 hS1 hS3 hW1 hW3 hWA
    go_wp2_with fail
    go_ret
    exact ⟨by simp, HFIN.out, HBF.out⟩
end Go.Proofs.Ytcjhjengggfpeaa
