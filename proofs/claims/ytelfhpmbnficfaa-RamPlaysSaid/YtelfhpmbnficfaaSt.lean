/- RamPlays: steps that ask both machines in one statement. No condition. -/
import Derived.Test.YtelfhpmbnficfaaDa
import Derived.Test.YtelfhpmbnficfaaDc
import Derived.Test.YtelfhpmbnficfaaSb
namespace Go.Proofs.Ytelfhpmbnficfaa
open Go.RowKit
set_option linter.unusedVariables false
set_option maxRecDepth 100000
set_option linter.unusedSimpArgs false
/-- both machines hold the same -/
structure Good (base a r : Nat) (m : List Nat) (t : List Reg) (w : World) : Prop where
  pa : ∃ A c, PAt w base a m t A c
  ra : ∃ A c, RAt w base r m t A c
  km : MOk m
  kt : TOk t
  ha : base ≤ a
  hr : base ≤ r
  sz : base ≤ w.heap.size
section
variable {base a r : Nat} {m m2 : List Nat} {t t2 : List Reg} {w w' : World}
theorem Good.grow (h : Good base a r m t w) (hb : Gr w w') : Good base a r m t w' := by
  obtain ⟨A, c, h1⟩ := h.pa
  obtain ⟨A2, c2, h2⟩ := h.ra
  exact ⟨⟨A, c, h1.bel hb⟩, ⟨A2, c2, h2.bel hb⟩, h.km, h.kt, h.ha, h.hr, Nat.le_trans h.sz hb.size⟩
end
/-- a step: both answer alike, and hold the same again -/
def StepOk (base a r : Nat) (w : World) (e : Ending) (w' : World) : Prop := e = .returned (.bool true) ∧ (∃ m t, Good base a r m t w') ∧ Below base w w'
theorem bel_gr {B : Nat} {a b c : World} (h : Below B a b) (hB : B ≤ b.heap.size) (k : Gr b c) : Below B a c := h.trans (Below.mono k hB)
theorem may_p (base a p s : Nat) (sec : Bool) (ac : Int) (m : List Nat) (t : List Reg) (A : Option Addr) (c : Nat) (w : World) (hp : PAt w base a m t A c) (km : MOk m) (kt : TOk t) (hpu : U64 p) (hsu : U64 s) (hac : I64 ac) :
    Calls Try.prog 23 #[.pointer (some ⟨a, 0, none⟩), .bool sec, .int .i64 ac, .int .u64 (p : Nat), .int .u64 (s : Nat)] w (PDone base a (.int .i64 (mayE t sec ac p s)) m t w) :=
  (may_any base a p s sec ac m t A c w hp km kt hpu hsu hac).mono fun e w' ⟨he, hb⟩ => by subst he; exact PDone.same hp hb
theorem may_d (base a p s : Nat) (sec : Bool) (ac : Int) (m : List Nat) (t : List Reg) (A : Option Addr) (c : Nat) (w : World) (hp : RAt w base a m t A c) (km : MOk m) (kt : TOk t) (hpu : U64 p) (hsu : U64 s) (hac : I64 ac) :
    Calls Try.prog 27 #[.pointer (some ⟨a, 0, none⟩), .bool sec, .int .i64 ac, .int .u64 (p : Nat), .int .u64 (s : Nat)] w (DDone base a (.int .i64 (mayE t sec ac p s)) m t w) :=
  (rmay_any base a p s sec ac m t A c w hp km kt hpu hsu hac).mono fun e w' ⟨he, hb⟩ => by subst he; exact DDone.same hp hb
set_option maxHeartbeats 6400000 in
theorem step_1 (b s : Nat) (rd wrt ex sc sec : Bool) (ac : Int) (p z : Nat) (B : Option Addr) (n cb : Nat) (bl : List Nat) (base a r : Nat) (m : List Nat) (t : List Reg) (w : World) (h : Good base a r m t w) (hx : RFit ⟨b, s, rd, wrt, ex, sc⟩) (hac : I64 ac) (hp : U64 p) (hz : U64 z) (hB : ∀ W, Below base w W → BIn W B n cb bl) :
    Calls Try.prog 9 #[.pointer (some ⟨a, 0, none⟩), .pointer (some ⟨r, 0, none⟩), .agg #[.int .i64 1, .int .u64 (b : Nat), .int .u64 (s : Nat), .bool rd, .bool wrt, .bool ex, .bool sc, .bool sec, .int .i64 ac, .int .u64 (p : Nat), .int .u64 (z : Nat), .slice B n cb]] w (StepOk base a r w) := by
  have hg0 := Gr.alloc w (.cells #[.int .i64 1, .int .u64 (b : Nat), .int .u64 (s : Nat), .bool rd, .bool wrt, .bool ex, .bool sc, .bool sec, .int .i64 ac, .int .u64 (p : Nat), .int .u64 (z : Nat), .slice B n cb] 38)
  have HX := Lib.hid (Blk.new w 38 [.int .i64 1, .int .u64 (b : Nat), .int .u64 (s : Nat), .bool rd, .bool wrt, .bool ex, .bool sc, .bool sec, .int .i64 ac, .int .u64 (p : Nat), .int .u64 (z : Nat), .slice B n cb])
  have HG0 := Lib.hid hg0
  have HG := Lib.hid (h.grow hg0)
  have HSZ := Lib.hid h.sz
  have HFX := Lib.hid hx
  have HAC := Lib.hid hac
  have HPU := Lib.hid hp
  have HZU := Lib.hid hz
  have HBB := Lib.hid hB
  clear h hg0 hx hac hp hz hB
  go_enter Try.func9, Try.ntmps9
  go_upto_region 3 with (fail)
  obtain ⟨w1, hw1⟩ : ∃ w1, w.alloc (.cells #[.int .i64 1, .int .u64 (b : Nat), .int .u64 (s : Nat), .bool rd, .bool wrt, .bool ex, .bool sc, .bool sec, .int .i64 ac, .int .u64 (p : Nat), .int .u64 (z : Nat), .slice B n cb] 38) = w1 := ⟨_, rfl⟩
  try rw [hw1]
  have hw1' : w.alloc (.cells ([.int .i64 1, .int .u64 (b : Nat), .int .u64 (s : Nat), .bool rd, .bool wrt, .bool ex, .bool sc, .bool sec, .int .i64 ac, .int .u64 (p : Nat), .int .u64 (z : Nat), .slice B n cb] : List Value).toArray 38) = w1 := hw1
  rw [hw1] at HG0 HG
  rw [hw1'] at HX
  clear hw1 hw1'
  obtain ⟨E, hE⟩ : ∃ E, addE t ⟨b, s, rd, wrt, ex, sc⟩ = E := ⟨_, rfl⟩
  have HE := Lib.hid hE
  clear hE
  refine wp_region_L (fun w_ => Blk w_ w.heap.size 38 [.int .i64 1, .int .u64 (b : Nat), .int .u64 (s : Nat), .bool rd, .bool wrt, .bool ex, .bool sc, .bool sec, .int .i64 ac, .int .u64 (p : Nat), .int .u64 (z : Nat), .slice B n cb]) [] [] (by kernel_rfl) HX.out.drew ?_
  refine wpAnyL_take (oi := _) (v := _) (fun _ _ hS_ hb_ => hS_.gr hb_) (i := 0) rfl (by kernel_rfl) (fun _ _ _ h => h) (pureG (by rfl) (by intro w; go_simp; first | done | with_reducible rfl)) ?_
  try simp only [Act.put, List.getElem_toArray, List.getElem_cons_succ, List.getElem_cons_zero, List.setIfInBounds_toArray, List.set_cons_zero, List.set_cons_succ]
  refine wpAnyL_take (oi := _) (v := _) (fun _ _ hS_ hb_ => hS_.gr hb_) (i := 1) rfl (by kernel_rfl) (fun _ _ _ h => h) (pureG (by rfl) (by intro w; go_simp; first | done | with_reducible rfl)) ?_
  try simp only [Act.put, List.getElem_toArray, List.getElem_cons_succ, List.getElem_cons_zero, List.setIfInBounds_toArray, List.set_cons_zero, List.set_cons_succ]
  refine wpAnyL_take (oi := _) (v := _) (fun _ _ hS_ hb_ => hS_.gr hb_) (i := 2) rfl (by kernel_rfl) (fun _ _ _ h => h) (loadG (by rfl) 34 (.tmp 22) rfl (w.heap.size) (1) rfl (regD ⟨b, s, rd, wrt, ex, sc⟩) _ (fun w_ hS_ => blk_part (a := [.int .i64 1]) (b := regD ⟨b, s, rd, wrt, ex, sc⟩) (c := [.bool sec, .int .i64 ac, .int .u64 (p : Nat), .int .u64 (z : Nat), .slice B n cb]) hS_ rfl) Try.underlying34 rfl (by rw [info34]; rfl)) ?_
  try simp only [Act.put, List.getElem_toArray, List.getElem_cons_succ, List.getElem_cons_zero, List.setIfInBounds_toArray, List.set_cons_zero, List.set_cons_succ]
  refine wpAnyL_take (oi := _) (v := _) (fun _ _ hS_ hb_ => hS_.gr hb_) (i := 4) rfl (by kernel_rfl) (fun _ _ _ h => h) (pureG (by rfl) (by intro w; go_simp; first | done | with_reducible rfl)) ?_
  try simp only [Act.put, List.getElem_toArray, List.getElem_cons_succ, List.getElem_cons_zero, List.setIfInBounds_toArray, List.set_cons_zero, List.set_cons_succ]
  refine wpAnyL_take (oi := _) (v := _) (fun _ _ hS_ hb_ => hS_.gr hb_) (i := 5) rfl (by kernel_rfl) (fun _ _ _ h => h) (pureG (by rfl) (by intro w; go_simp; first | done | with_reducible rfl)) ?_
  try simp only [Act.put, List.getElem_toArray, List.getElem_cons_succ, List.getElem_cons_zero, List.setIfInBounds_toArray, List.set_cons_zero, List.set_cons_succ]
  refine wpAnyL_take (oi := _) (v := _) (fun _ _ hS_ hb_ => hS_.gr hb_) (i := 6) rfl (by kernel_rfl) (fun _ _ _ h => h) (loadG (by rfl) 34 (.tmp 26) rfl (w.heap.size) (1) rfl (regD ⟨b, s, rd, wrt, ex, sc⟩) _ (fun w_ hS_ => blk_part (a := [.int .i64 1]) (b := regD ⟨b, s, rd, wrt, ex, sc⟩) (c := [.bool sec, .int .i64 ac, .int .u64 (p : Nat), .int .u64 (z : Nat), .slice B n cb]) hS_ rfl) Try.underlying34 rfl (by rw [info34]; rfl)) ?_
  try simp only [Act.put, List.getElem_toArray, List.getElem_cons_succ, List.getElem_cons_zero, List.setIfInBounds_toArray, List.set_cons_zero, List.set_cons_succ]
  refine wpAnyL_one (i := 3) (by kernel_rfl) rfl (fun W1 hW1 hS1 => ?_)
  have hg1 : Gr w1 W1 := (Gr.drew w1).trans hW1
  have G1 := HG.out.grow hg1
  obtain ⟨A1, c1, hpa⟩ := G1.pa
  obtain ⟨A2, c2, hra⟩ := G1.ra
  have b1 : Below base w W1 := bel_gr ((HG0.out : Below w.heap.size w w1).mono HSZ.out) HG.out.sz hg1
  have cl := add_any base a ⟨b, s, rd, wrt, ex, sc⟩ m t A1 c1 W1 hpa HG.out.km HG.out.kt HG.out.ha G1.sz HFX.out
  rw [HE.out] at cl
  refine wpOp_callE (i := 3) rfl (by rfl) rfl Try.func16 (by kernel_rfl) (by kernel_rfl) #[.pointer (some ⟨a, 0, none⟩), .agg (regD ⟨b, s, rd, wrt, ex, sc⟩).toArray] (by simp [Act.eval]) (cl.mono ?_)
  rintro e W2 ⟨rfl, hpa2, hf2⟩
  refine ⟨_, rfl, hf2.blk hS1 (by decide), ?_⟩
  try simp only [Act.put, List.getElem_toArray, List.getElem_cons_succ, List.getElem_cons_zero, List.setIfInBounds_toArray, List.set_cons_zero, List.set_cons_succ]
  refine wpAnyL_one (i := 7) (by kernel_rfl) rfl (fun W3 hW3 hS3 => ?_)
  have hra3 := (hra.frP hf2).bel hW3
  have s2 : base ≤ W2.heap.size := Nat.le_trans G1.sz hf2.size
  have b3 : Below base w W3 := bel_gr (b1.trans (hf2.below G1.sz)) s2 hW3
  have s3 : base ≤ W3.heap.size := Nat.le_trans s2 hW3.size
  have cl2 := radd_any base r ⟨b, s, rd, wrt, ex, sc⟩ m t A2 c2 W3 hra3 HG.out.km HG.out.kt HG.out.hr s3 HFX.out
  rw [HE.out] at cl2
  refine wpOp_callE (i := 7) rfl (by rfl) rfl Try.func24 (by kernel_rfl) (by kernel_rfl) #[.pointer (some ⟨r, 0, none⟩), .agg (regD ⟨b, s, rd, wrt, ex, sc⟩).toArray] (by simp [Act.eval]) (cl2.mono ?_)
  rintro e W4 ⟨rfl, hra4, hf4⟩
  refine ⟨_, rfl, hf4.blk hS3 (by decide), ?_⟩
  try simp only [Act.put, List.getElem_toArray, List.getElem_cons_succ, List.getElem_cons_zero, List.setIfInBounds_toArray, List.set_cons_zero, List.set_cons_succ]
  refine wpAnyL_take (oi := _) (v := _) (fun _ _ hS_ hb_ => hS_.gr hb_) (i := 8) rfl (by kernel_rfl) (fun _ _ _ h => h) (pureG (by rfl) (by intro w; go_simp; first | done | with_reducible rfl)) ?_
  try simp only [Act.put, List.getElem_toArray, List.getElem_cons_succ, List.getElem_cons_zero, List.setIfInBounds_toArray, List.set_cons_zero, List.set_cons_succ]
  refine wpAnyL_take (oi := _) (v := _) (fun _ _ hS_ hb_ => hS_.gr hb_) (i := 9) rfl (by kernel_rfl) (fun _ _ _ h => h) (pureG (by rfl) (by intro w; go_simp; first | done | with_reducible rfl)) ?_
  try simp only [Act.put, List.getElem_toArray, List.getElem_cons_succ, List.getElem_cons_zero, List.setIfInBounds_toArray, List.set_cons_zero, List.set_cons_succ]
  refine wpAnyL_done (by kernel_rfl) (fun WA hWA => ?_) _
  obtain ⟨A5, c5, hpa5⟩ := hpa2
  obtain ⟨A6, c6, hra6⟩ := hra4
  have HFIN := Lib.hid (show ∃ m t, Good base a r m t WA from ⟨_, _, ⟨A5, c5, ((hpa5.bel hW3).frD hf4).bel hWA⟩, ⟨A6, c6, hra6.bel hWA⟩, HG.out.km, addT_ok HG.out.kt _, HG.out.ha, HG.out.hr, Nat.le_trans (Nat.le_trans s3 hf4.size) hWA.size⟩)
  have HBF := Lib.hid (show Below base w WA from bel_gr (b3.trans (hf4.below s3)) (Nat.le_trans s3 hf4.size) hWA)
  clear hpa5 hra6 hra3 b3 s3 s2 b1 G1 hg1 hra hpa cl cl2 hf2 hf4 hS1 hS3 hW1 hW3 hWA
  go_wp2_with fail
  go_ret
  exact ⟨by simp, HFIN.out, HBF.out⟩
set_option maxHeartbeats 6400000 in
theorem step_2 (b s : Nat) (rd wrt ex sc sec : Bool) (ac : Int) (p z : Nat) (B : Option Addr) (n cb : Nat) (bl : List Nat) (base a r : Nat) (m : List Nat) (t : List Reg) (w : World) (h : Good base a r m t w) (hx : RFit ⟨b, s, rd, wrt, ex, sc⟩) (hac : I64 ac) (hp : U64 p) (hz : U64 z) (hB : ∀ W, Below base w W → BIn W B n cb bl) :
    Calls Try.prog 9 #[.pointer (some ⟨a, 0, none⟩), .pointer (some ⟨r, 0, none⟩), .agg #[.int .i64 2, .int .u64 (b : Nat), .int .u64 (s : Nat), .bool rd, .bool wrt, .bool ex, .bool sc, .bool sec, .int .i64 ac, .int .u64 (p : Nat), .int .u64 (z : Nat), .slice B n cb]] w (StepOk base a r w) := by
  have hg0 := Gr.alloc w (.cells #[.int .i64 2, .int .u64 (b : Nat), .int .u64 (s : Nat), .bool rd, .bool wrt, .bool ex, .bool sc, .bool sec, .int .i64 ac, .int .u64 (p : Nat), .int .u64 (z : Nat), .slice B n cb] 38)
  have HX := Lib.hid (Blk.new w 38 [.int .i64 2, .int .u64 (b : Nat), .int .u64 (s : Nat), .bool rd, .bool wrt, .bool ex, .bool sc, .bool sec, .int .i64 ac, .int .u64 (p : Nat), .int .u64 (z : Nat), .slice B n cb])
  have HG0 := Lib.hid hg0
  have HG := Lib.hid (h.grow hg0)
  have HSZ := Lib.hid h.sz
  have HFX := Lib.hid hx
  have HAC := Lib.hid hac
  have HPU := Lib.hid hp
  have HZU := Lib.hid hz
  have HBB := Lib.hid hB
  clear h hg0 hx hac hp hz hB
  go_enter Try.func9, Try.ntmps9
  go_upto_region 5 with (fail)
  obtain ⟨w1, hw1⟩ : ∃ w1, w.alloc (.cells #[.int .i64 2, .int .u64 (b : Nat), .int .u64 (s : Nat), .bool rd, .bool wrt, .bool ex, .bool sc, .bool sec, .int .i64 ac, .int .u64 (p : Nat), .int .u64 (z : Nat), .slice B n cb] 38) = w1 := ⟨_, rfl⟩
  try rw [hw1]
  have hw1' : w.alloc (.cells ([.int .i64 2, .int .u64 (b : Nat), .int .u64 (s : Nat), .bool rd, .bool wrt, .bool ex, .bool sc, .bool sec, .int .i64 ac, .int .u64 (p : Nat), .int .u64 (z : Nat), .slice B n cb] : List Value).toArray 38) = w1 := hw1
  rw [hw1] at HG0 HG
  rw [hw1'] at HX
  clear hw1 hw1'
  obtain ⟨E, hE⟩ : ∃ E, drE t p = E := ⟨_, rfl⟩
  have HE := Lib.hid hE
  clear hE
  refine wp_region_L (fun w_ => Blk w_ w.heap.size 38 [.int .i64 2, .int .u64 (b : Nat), .int .u64 (s : Nat), .bool rd, .bool wrt, .bool ex, .bool sc, .bool sec, .int .i64 ac, .int .u64 (p : Nat), .int .u64 (z : Nat), .slice B n cb]) [] [] (by kernel_rfl) HX.out.drew ?_
  refine wpAnyL_take (oi := _) (v := _) (fun _ _ hS_ hb_ => hS_.gr hb_) (i := 0) rfl (by kernel_rfl) (fun _ _ _ h => h) (pureG (by rfl) (by intro w; go_simp; first | done | with_reducible rfl)) ?_
  try simp only [Act.put, List.getElem_toArray, List.getElem_cons_succ, List.getElem_cons_zero, List.setIfInBounds_toArray, List.set_cons_zero, List.set_cons_succ]
  refine wpAnyL_take (oi := _) (v := _) (fun _ _ hS_ hb_ => hS_.gr hb_) (i := 1) rfl (by kernel_rfl) (fun _ _ _ h => h) (pureG (by rfl) (by intro w; go_simp; first | done | with_reducible rfl)) ?_
  try simp only [Act.put, List.getElem_toArray, List.getElem_cons_succ, List.getElem_cons_zero, List.setIfInBounds_toArray, List.set_cons_zero, List.set_cons_succ]
  refine wpAnyL_take (oi := _) (v := _) (fun _ _ hS_ hb_ => hS_.gr hb_) (i := 2) rfl (by kernel_rfl) (fun _ _ _ h => h) (worldG (by rfl) (by intro w_ hS_; have q0 : w_.cell? ⟨w.heap.size, 9, none⟩ = some (.int .u64 (p : Nat)) := hS_.cell 9; go_simp; first | done | with_reducible rfl)) ?_
  try simp only [Act.put, List.getElem_toArray, List.getElem_cons_succ, List.getElem_cons_zero, List.setIfInBounds_toArray, List.set_cons_zero, List.set_cons_succ]
  refine wpAnyL_take (oi := _) (v := _) (fun _ _ hS_ hb_ => hS_.gr hb_) (i := 4) rfl (by kernel_rfl) (fun _ _ _ h => h) (pureG (by rfl) (by intro w; go_simp; first | done | with_reducible rfl)) ?_
  try simp only [Act.put, List.getElem_toArray, List.getElem_cons_succ, List.getElem_cons_zero, List.setIfInBounds_toArray, List.set_cons_zero, List.set_cons_succ]
  refine wpAnyL_take (oi := _) (v := _) (fun _ _ hS_ hb_ => hS_.gr hb_) (i := 5) rfl (by kernel_rfl) (fun _ _ _ h => h) (pureG (by rfl) (by intro w; go_simp; first | done | with_reducible rfl)) ?_
  try simp only [Act.put, List.getElem_toArray, List.getElem_cons_succ, List.getElem_cons_zero, List.setIfInBounds_toArray, List.set_cons_zero, List.set_cons_succ]
  refine wpAnyL_take (oi := _) (v := _) (fun _ _ hS_ hb_ => hS_.gr hb_) (i := 6) rfl (by kernel_rfl) (fun _ _ _ h => h) (worldG (by rfl) (by intro w_ hS_; have q0 : w_.cell? ⟨w.heap.size, 9, none⟩ = some (.int .u64 (p : Nat)) := hS_.cell 9; go_simp; first | done | with_reducible rfl)) ?_
  try simp only [Act.put, List.getElem_toArray, List.getElem_cons_succ, List.getElem_cons_zero, List.setIfInBounds_toArray, List.set_cons_zero, List.set_cons_succ]
  refine wpAnyL_one (i := 3) (by kernel_rfl) rfl (fun W1 hW1 hS1 => ?_)
  have hg1 : Gr w1 W1 := (Gr.drew w1).trans hW1
  have G1 := HG.out.grow hg1
  obtain ⟨A1, c1, hpa⟩ := G1.pa
  obtain ⟨A2, c2, hra⟩ := G1.ra
  have b1 : Below base w W1 := bel_gr ((HG0.out : Below w.heap.size w w1).mono HSZ.out) HG.out.sz hg1
  have cl := drop_any base a p m t A1 c1 W1 hpa HG.out.km HG.out.kt HG.out.ha G1.sz
  rw [HE.out] at cl
  refine wpOp_callE (i := 3) rfl (by rfl) rfl Try.func15 (by kernel_rfl) (by kernel_rfl) #[.pointer (some ⟨a, 0, none⟩), .int .u64 (p : Nat)] (by simp [Act.eval]) (cl.mono ?_)
  rintro e W2 ⟨rfl, hpa2, hf2⟩
  refine ⟨_, rfl, hf2.blk hS1 (by decide), ?_⟩
  try simp only [Act.put, List.getElem_toArray, List.getElem_cons_succ, List.getElem_cons_zero, List.setIfInBounds_toArray, List.set_cons_zero, List.set_cons_succ]
  refine wpAnyL_one (i := 7) (by kernel_rfl) rfl (fun W3 hW3 hS3 => ?_)
  have hra3 := (hra.frP hf2).bel hW3
  have s2 : base ≤ W2.heap.size := Nat.le_trans G1.sz hf2.size
  have b3 : Below base w W3 := bel_gr (b1.trans (hf2.below G1.sz)) s2 hW3
  have s3 : base ≤ W3.heap.size := Nat.le_trans s2 hW3.size
  have cl2 := rdrop_any base r p m t A2 c2 W3 hra3 HG.out.km HG.out.kt HG.out.hr s3
  rw [HE.out] at cl2
  refine wpOp_callE (i := 7) rfl (by rfl) rfl Try.func25 (by kernel_rfl) (by kernel_rfl) #[.pointer (some ⟨r, 0, none⟩), .int .u64 (p : Nat)] (by simp [Act.eval]) (cl2.mono ?_)
  rintro e W4 ⟨rfl, hra4, hf4⟩
  refine ⟨_, rfl, hf4.blk hS3 (by decide), ?_⟩
  try simp only [Act.put, List.getElem_toArray, List.getElem_cons_succ, List.getElem_cons_zero, List.setIfInBounds_toArray, List.set_cons_zero, List.set_cons_succ]
  refine wpAnyL_take (oi := _) (v := _) (fun _ _ hS_ hb_ => hS_.gr hb_) (i := 8) rfl (by kernel_rfl) (fun _ _ _ h => h) (pureG (by rfl) (by intro w; go_simp; first | done | with_reducible rfl)) ?_
  try simp only [Act.put, List.getElem_toArray, List.getElem_cons_succ, List.getElem_cons_zero, List.setIfInBounds_toArray, List.set_cons_zero, List.set_cons_succ]
  refine wpAnyL_take (oi := _) (v := _) (fun _ _ hS_ hb_ => hS_.gr hb_) (i := 9) rfl (by kernel_rfl) (fun _ _ _ h => h) (pureG (by rfl) (by intro w; go_simp; first | done | with_reducible rfl)) ?_
  try simp only [Act.put, List.getElem_toArray, List.getElem_cons_succ, List.getElem_cons_zero, List.setIfInBounds_toArray, List.set_cons_zero, List.set_cons_succ]
  refine wpAnyL_done (by kernel_rfl) (fun WA hWA => ?_) _
  obtain ⟨A5, c5, hpa5⟩ := hpa2
  obtain ⟨A6, c6, hra6⟩ := hra4
  have HFIN := Lib.hid (show ∃ m t, Good base a r m t WA from ⟨_, _, ⟨A5, c5, ((hpa5.bel hW3).frD hf4).bel hWA⟩, ⟨A6, c6, hra6.bel hWA⟩, HG.out.km, drT_ok HG.out.kt _, HG.out.ha, HG.out.hr, Nat.le_trans (Nat.le_trans s3 hf4.size) hWA.size⟩)
  have HBF := Lib.hid (show Below base w WA from bel_gr (b3.trans (hf4.below s3)) (Nat.le_trans s3 hf4.size) hWA)
  clear hpa5 hra6 hra3 b3 s3 s2 b1 G1 hg1 hra hpa cl cl2 hf2 hf4 hS1 hS3 hW1 hW3 hWA
  go_wp2_with fail
  go_ret
  exact ⟨by simp, HFIN.out, HBF.out⟩
set_option maxHeartbeats 6400000 in
theorem step_5 (b s : Nat) (rd wrt ex sc sec : Bool) (ac : Int) (p z : Nat) (B : Option Addr) (n cb : Nat) (bl : List Nat) (base a r : Nat) (m : List Nat) (t : List Reg) (w : World) (h : Good base a r m t w) (hx : RFit ⟨b, s, rd, wrt, ex, sc⟩) (hac : I64 ac) (hp : U64 p) (hz : U64 z) (hB : ∀ W, Below base w W → BIn W B n cb bl) :
    Calls Try.prog 9 #[.pointer (some ⟨a, 0, none⟩), .pointer (some ⟨r, 0, none⟩), .agg #[.int .i64 5, .int .u64 (b : Nat), .int .u64 (s : Nat), .bool rd, .bool wrt, .bool ex, .bool sc, .bool sec, .int .i64 ac, .int .u64 (p : Nat), .int .u64 (z : Nat), .slice B n cb]] w (StepOk base a r w) := by
  have hg0 := Gr.alloc w (.cells #[.int .i64 5, .int .u64 (b : Nat), .int .u64 (s : Nat), .bool rd, .bool wrt, .bool ex, .bool sc, .bool sec, .int .i64 ac, .int .u64 (p : Nat), .int .u64 (z : Nat), .slice B n cb] 38)
  have HX := Lib.hid (Blk.new w 38 [.int .i64 5, .int .u64 (b : Nat), .int .u64 (s : Nat), .bool rd, .bool wrt, .bool ex, .bool sc, .bool sec, .int .i64 ac, .int .u64 (p : Nat), .int .u64 (z : Nat), .slice B n cb])
  have HG0 := Lib.hid hg0
  have HG := Lib.hid (h.grow hg0)
  have HSZ := Lib.hid h.sz
  have HFX := Lib.hid hx
  have HAC := Lib.hid hac
  have HPU := Lib.hid hp
  have HZU := Lib.hid hz
  have HBB := Lib.hid hB
  clear h hg0 hx hac hp hz hB
  go_enter Try.func9, Try.ntmps9
  go_upto_region 19 with (fail)
  obtain ⟨w1, hw1⟩ : ∃ w1, w.alloc (.cells #[.int .i64 5, .int .u64 (b : Nat), .int .u64 (s : Nat), .bool rd, .bool wrt, .bool ex, .bool sc, .bool sec, .int .i64 ac, .int .u64 (p : Nat), .int .u64 (z : Nat), .slice B n cb] 38) = w1 := ⟨_, rfl⟩
  try rw [hw1]
  have hw1' : w.alloc (.cells ([.int .i64 5, .int .u64 (b : Nat), .int .u64 (s : Nat), .bool rd, .bool wrt, .bool ex, .bool sc, .bool sec, .int .i64 ac, .int .u64 (p : Nat), .int .u64 (z : Nat), .slice B n cb] : List Value).toArray 38) = w1 := hw1
  rw [hw1] at HG0 HG
  rw [hw1'] at HX
  clear hw1 hw1'
  obtain ⟨E, hE⟩ : ∃ E, mayE t sec ac p z = E := ⟨_, rfl⟩
  have HE := Lib.hid hE
  clear hE
  refine wp_region_L (fun w_ => Blk w_ w.heap.size 38 [.int .i64 5, .int .u64 (b : Nat), .int .u64 (s : Nat), .bool rd, .bool wrt, .bool ex, .bool sc, .bool sec, .int .i64 ac, .int .u64 (p : Nat), .int .u64 (z : Nat), .slice B n cb]) [] [] (by kernel_rfl) HX.out.drew ?_
  refine wpAnyL_take (oi := _) (v := _) (fun _ _ hS_ hb_ => hS_.gr hb_) (i := 0) rfl (by kernel_rfl) (fun _ _ _ h => h) (pureG (by rfl) (by intro w; go_simp; first | done | with_reducible rfl)) ?_
  try simp only [Act.put, List.getElem_toArray, List.getElem_cons_succ, List.getElem_cons_zero, List.setIfInBounds_toArray, List.set_cons_zero, List.set_cons_succ]
  refine wpAnyL_take (oi := _) (v := _) (fun _ _ hS_ hb_ => hS_.gr hb_) (i := 1) rfl (by kernel_rfl) (fun _ _ _ h => h) (pureG (by rfl) (by intro w; go_simp; first | done | with_reducible rfl)) ?_
  try simp only [Act.put, List.getElem_toArray, List.getElem_cons_succ, List.getElem_cons_zero, List.setIfInBounds_toArray, List.set_cons_zero, List.set_cons_succ]
  refine wpAnyL_take (oi := _) (v := _) (fun _ _ hS_ hb_ => hS_.gr hb_) (i := 2) rfl (by kernel_rfl) (fun _ _ _ h => h) (worldG (by rfl) (by intro w_ hS_; have q0 : w_.cell? ⟨w.heap.size, 7, none⟩ = some (.bool sec) := hS_.cell 7; go_simp; first | done | with_reducible rfl)) ?_
  try simp only [Act.put, List.getElem_toArray, List.getElem_cons_succ, List.getElem_cons_zero, List.setIfInBounds_toArray, List.set_cons_zero, List.set_cons_succ]
  refine wpAnyL_take (oi := _) (v := _) (fun _ _ hS_ hb_ => hS_.gr hb_) (i := 3) rfl (by kernel_rfl) (fun _ _ _ h => h) (pureG (by rfl) (by intro w; go_simp; first | done | with_reducible rfl)) ?_
  try simp only [Act.put, List.getElem_toArray, List.getElem_cons_succ, List.getElem_cons_zero, List.setIfInBounds_toArray, List.set_cons_zero, List.set_cons_succ]
  refine wpAnyL_take (oi := _) (v := _) (fun _ _ hS_ hb_ => hS_.gr hb_) (i := 4) rfl (by kernel_rfl) (fun _ _ _ h => h) (worldG (by rfl) (by intro w_ hS_; have q0 : w_.cell? ⟨w.heap.size, 8, none⟩ = some (.int .i64 ac) := hS_.cell 8; go_simp; first | done | with_reducible rfl)) ?_
  try simp only [Act.put, List.getElem_toArray, List.getElem_cons_succ, List.getElem_cons_zero, List.setIfInBounds_toArray, List.set_cons_zero, List.set_cons_succ]
  refine wpAnyL_take (oi := _) (v := _) (fun _ _ hS_ hb_ => hS_.gr hb_) (i := 5) rfl (by kernel_rfl) (fun _ _ _ h => h) (pureG (by rfl) (by intro w; go_simp; first | done | with_reducible rfl)) ?_
  try simp only [Act.put, List.getElem_toArray, List.getElem_cons_succ, List.getElem_cons_zero, List.setIfInBounds_toArray, List.set_cons_zero, List.set_cons_succ]
  refine wpAnyL_take (oi := _) (v := _) (fun _ _ hS_ hb_ => hS_.gr hb_) (i := 6) rfl (by kernel_rfl) (fun _ _ _ h => h) (worldG (by rfl) (by intro w_ hS_; have q0 : w_.cell? ⟨w.heap.size, 9, none⟩ = some (.int .u64 (p : Nat)) := hS_.cell 9; go_simp; first | done | with_reducible rfl)) ?_
  try simp only [Act.put, List.getElem_toArray, List.getElem_cons_succ, List.getElem_cons_zero, List.setIfInBounds_toArray, List.set_cons_zero, List.set_cons_succ]
  refine wpAnyL_take (oi := _) (v := _) (fun _ _ hS_ hb_ => hS_.gr hb_) (i := 7) rfl (by kernel_rfl) (fun _ _ _ h => h) (pureG (by rfl) (by intro w; go_simp; first | done | with_reducible rfl)) ?_
  try simp only [Act.put, List.getElem_toArray, List.getElem_cons_succ, List.getElem_cons_zero, List.setIfInBounds_toArray, List.set_cons_zero, List.set_cons_succ]
  refine wpAnyL_take (oi := _) (v := _) (fun _ _ hS_ hb_ => hS_.gr hb_) (i := 8) rfl (by kernel_rfl) (fun _ _ _ h => h) (worldG (by rfl) (by intro w_ hS_; have q0 : w_.cell? ⟨w.heap.size, 10, none⟩ = some (.int .u64 (z : Nat)) := hS_.cell 10; go_simp; first | done | with_reducible rfl)) ?_
  try simp only [Act.put, List.getElem_toArray, List.getElem_cons_succ, List.getElem_cons_zero, List.setIfInBounds_toArray, List.set_cons_zero, List.set_cons_succ]
  refine wpAnyL_take (oi := _) (v := _) (fun _ _ hS_ hb_ => hS_.gr hb_) (i := 10) rfl (by kernel_rfl) (fun _ _ _ h => h) (pureG (by rfl) (by intro w; go_simp; first | done | with_reducible rfl)) ?_
  try simp only [Act.put, List.getElem_toArray, List.getElem_cons_succ, List.getElem_cons_zero, List.setIfInBounds_toArray, List.set_cons_zero, List.set_cons_succ]
  refine wpAnyL_take (oi := _) (v := _) (fun _ _ hS_ hb_ => hS_.gr hb_) (i := 11) rfl (by kernel_rfl) (fun _ _ _ h => h) (pureG (by rfl) (by intro w; go_simp; first | done | with_reducible rfl)) ?_
  try simp only [Act.put, List.getElem_toArray, List.getElem_cons_succ, List.getElem_cons_zero, List.setIfInBounds_toArray, List.set_cons_zero, List.set_cons_succ]
  refine wpAnyL_take (oi := _) (v := _) (fun _ _ hS_ hb_ => hS_.gr hb_) (i := 12) rfl (by kernel_rfl) (fun _ _ _ h => h) (worldG (by rfl) (by intro w_ hS_; have q0 : w_.cell? ⟨w.heap.size, 7, none⟩ = some (.bool sec) := hS_.cell 7; go_simp; first | done | with_reducible rfl)) ?_
  try simp only [Act.put, List.getElem_toArray, List.getElem_cons_succ, List.getElem_cons_zero, List.setIfInBounds_toArray, List.set_cons_zero, List.set_cons_succ]
  refine wpAnyL_take (oi := _) (v := _) (fun _ _ hS_ hb_ => hS_.gr hb_) (i := 13) rfl (by kernel_rfl) (fun _ _ _ h => h) (pureG (by rfl) (by intro w; go_simp; first | done | with_reducible rfl)) ?_
  try simp only [Act.put, List.getElem_toArray, List.getElem_cons_succ, List.getElem_cons_zero, List.setIfInBounds_toArray, List.set_cons_zero, List.set_cons_succ]
  refine wpAnyL_take (oi := _) (v := _) (fun _ _ hS_ hb_ => hS_.gr hb_) (i := 14) rfl (by kernel_rfl) (fun _ _ _ h => h) (worldG (by rfl) (by intro w_ hS_; have q0 : w_.cell? ⟨w.heap.size, 8, none⟩ = some (.int .i64 ac) := hS_.cell 8; go_simp; first | done | with_reducible rfl)) ?_
  try simp only [Act.put, List.getElem_toArray, List.getElem_cons_succ, List.getElem_cons_zero, List.setIfInBounds_toArray, List.set_cons_zero, List.set_cons_succ]
  refine wpAnyL_take (oi := _) (v := _) (fun _ _ hS_ hb_ => hS_.gr hb_) (i := 15) rfl (by kernel_rfl) (fun _ _ _ h => h) (pureG (by rfl) (by intro w; go_simp; first | done | with_reducible rfl)) ?_
  try simp only [Act.put, List.getElem_toArray, List.getElem_cons_succ, List.getElem_cons_zero, List.setIfInBounds_toArray, List.set_cons_zero, List.set_cons_succ]
  refine wpAnyL_take (oi := _) (v := _) (fun _ _ hS_ hb_ => hS_.gr hb_) (i := 16) rfl (by kernel_rfl) (fun _ _ _ h => h) (worldG (by rfl) (by intro w_ hS_; have q0 : w_.cell? ⟨w.heap.size, 9, none⟩ = some (.int .u64 (p : Nat)) := hS_.cell 9; go_simp; first | done | with_reducible rfl)) ?_
  try simp only [Act.put, List.getElem_toArray, List.getElem_cons_succ, List.getElem_cons_zero, List.setIfInBounds_toArray, List.set_cons_zero, List.set_cons_succ]
  refine wpAnyL_take (oi := _) (v := _) (fun _ _ hS_ hb_ => hS_.gr hb_) (i := 17) rfl (by kernel_rfl) (fun _ _ _ h => h) (pureG (by rfl) (by intro w; go_simp; first | done | with_reducible rfl)) ?_
  try simp only [Act.put, List.getElem_toArray, List.getElem_cons_succ, List.getElem_cons_zero, List.setIfInBounds_toArray, List.set_cons_zero, List.set_cons_succ]
  refine wpAnyL_take (oi := _) (v := _) (fun _ _ hS_ hb_ => hS_.gr hb_) (i := 18) rfl (by kernel_rfl) (fun _ _ _ h => h) (worldG (by rfl) (by intro w_ hS_; have q0 : w_.cell? ⟨w.heap.size, 10, none⟩ = some (.int .u64 (z : Nat)) := hS_.cell 10; go_simp; first | done | with_reducible rfl)) ?_
  try simp only [Act.put, List.getElem_toArray, List.getElem_cons_succ, List.getElem_cons_zero, List.setIfInBounds_toArray, List.set_cons_zero, List.set_cons_succ]
  refine wpAnyL_one (i := 9) (by kernel_rfl) rfl (fun W1 hW1 hS1 => ?_)
  have hg1 : Gr w1 W1 := (Gr.drew w1).trans hW1
  have G1 := HG.out.grow hg1
  obtain ⟨A1, c1, hpa⟩ := G1.pa
  obtain ⟨A2, c2, hra⟩ := G1.ra
  have b1 : Below base w W1 := bel_gr ((HG0.out : Below w.heap.size w w1).mono HSZ.out) HG.out.sz hg1
  have cl := may_p base a p z sec ac m t A1 c1 W1 hpa HG.out.km HG.out.kt HPU.out HZU.out HAC.out
  rw [HE.out] at cl
  refine wpOp_callE (i := 9) rfl (by rfl) rfl Try.func23 (by kernel_rfl) (by kernel_rfl) #[.pointer (some ⟨a, 0, none⟩), .bool sec, .int .i64 ac, .int .u64 (p : Nat), .int .u64 (z : Nat)] (by simp [Act.eval]) (cl.mono ?_)
  rintro e W2 ⟨rfl, hpa2, hf2⟩
  refine ⟨_, rfl, hf2.blk hS1 (by decide), ?_⟩
  try simp only [Act.put, List.getElem_toArray, List.getElem_cons_succ, List.getElem_cons_zero, List.setIfInBounds_toArray, List.set_cons_zero, List.set_cons_succ]
  refine wpAnyL_one (i := 19) (by kernel_rfl) rfl (fun W3 hW3 hS3 => ?_)
  have hra3 := (hra.frP hf2).bel hW3
  have s2 : base ≤ W2.heap.size := Nat.le_trans G1.sz hf2.size
  have b3 : Below base w W3 := bel_gr (b1.trans (hf2.below G1.sz)) s2 hW3
  have s3 : base ≤ W3.heap.size := Nat.le_trans s2 hW3.size
  have cl2 := may_d base r p z sec ac m t A2 c2 W3 hra3 HG.out.km HG.out.kt HPU.out HZU.out HAC.out
  rw [HE.out] at cl2
  refine wpOp_callE (i := 19) rfl (by rfl) rfl Try.func27 (by kernel_rfl) (by kernel_rfl) #[.pointer (some ⟨r, 0, none⟩), .bool sec, .int .i64 ac, .int .u64 (p : Nat), .int .u64 (z : Nat)] (by simp [Act.eval]) (cl2.mono ?_)
  rintro e W4 ⟨rfl, hra4, hf4⟩
  refine ⟨_, rfl, hf4.blk hS3 (by decide), ?_⟩
  try simp only [Act.put, List.getElem_toArray, List.getElem_cons_succ, List.getElem_cons_zero, List.setIfInBounds_toArray, List.set_cons_zero, List.set_cons_succ]
  refine wpAnyL_take (oi := _) (v := _) (fun _ _ hS_ hb_ => hS_.gr hb_) (i := 20) rfl (by kernel_rfl) (fun _ _ _ h => h) (pureG (by rfl) (by intro w; go_simp; first | done | with_reducible rfl)) ?_
  try simp only [Act.put, List.getElem_toArray, List.getElem_cons_succ, List.getElem_cons_zero, List.setIfInBounds_toArray, List.set_cons_zero, List.set_cons_succ]
  refine wpAnyL_take (oi := _) (v := _) (fun _ _ hS_ hb_ => hS_.gr hb_) (i := 21) rfl (by kernel_rfl) (fun _ _ _ h => h) (pureG (by rfl) (by intro w; go_simp; first | done | with_reducible rfl)) ?_
  try simp only [Act.put, List.getElem_toArray, List.getElem_cons_succ, List.getElem_cons_zero, List.setIfInBounds_toArray, List.set_cons_zero, List.set_cons_succ]
  refine wpAnyL_done (by kernel_rfl) (fun WA hWA => ?_) _
  obtain ⟨A5, c5, hpa5⟩ := hpa2
  obtain ⟨A6, c6, hra6⟩ := hra4
  have HFIN := Lib.hid (show ∃ m t, Good base a r m t WA from ⟨_, _, ⟨A5, c5, ((hpa5.bel hW3).frD hf4).bel hWA⟩, ⟨A6, c6, hra6.bel hWA⟩, HG.out.km, HG.out.kt, HG.out.ha, HG.out.hr, Nat.le_trans (Nat.le_trans s3 hf4.size) hWA.size⟩)
  have HBF := Lib.hid (show Below base w WA from bel_gr (b3.trans (hf4.below s3)) (Nat.le_trans s3 hf4.size) hWA)
  clear hpa5 hra6 hra3 b3 s3 s2 b1 G1 hg1 hra hpa cl cl2 hf2 hf4 hS1 hS3 hW1 hW3 hWA
  go_wp2_with fail
  go_ret
  exact ⟨by simp, HFIN.out, HBF.out⟩
set_option maxHeartbeats 6400000 in
theorem step_9 (b s : Nat) (rd wrt ex sc sec : Bool) (ac : Int) (p z : Nat) (B : Option Addr) (n cb : Nat) (bl : List Nat) (base a r : Nat) (m : List Nat) (t : List Reg) (w : World) (h : Good base a r m t w) (hx : RFit ⟨b, s, rd, wrt, ex, sc⟩) (hac : I64 ac) (hp : U64 p) (hz : U64 z) (hB : ∀ W, Below base w W → BIn W B n cb bl) :
    Calls Try.prog 9 #[.pointer (some ⟨a, 0, none⟩), .pointer (some ⟨r, 0, none⟩), .agg #[.int .i64 9, .int .u64 (b : Nat), .int .u64 (s : Nat), .bool rd, .bool wrt, .bool ex, .bool sc, .bool sec, .int .i64 ac, .int .u64 (p : Nat), .int .u64 (z : Nat), .slice B n cb]] w (StepOk base a r w) := by
  have hg0 := Gr.alloc w (.cells #[.int .i64 9, .int .u64 (b : Nat), .int .u64 (s : Nat), .bool rd, .bool wrt, .bool ex, .bool sc, .bool sec, .int .i64 ac, .int .u64 (p : Nat), .int .u64 (z : Nat), .slice B n cb] 38)
  have HX := Lib.hid (Blk.new w 38 [.int .i64 9, .int .u64 (b : Nat), .int .u64 (s : Nat), .bool rd, .bool wrt, .bool ex, .bool sc, .bool sec, .int .i64 ac, .int .u64 (p : Nat), .int .u64 (z : Nat), .slice B n cb])
  have HG0 := Lib.hid hg0
  have HG := Lib.hid (h.grow hg0)
  have HSZ := Lib.hid h.sz
  have HFX := Lib.hid hx
  have HAC := Lib.hid hac
  have HPU := Lib.hid hp
  have HZU := Lib.hid hz
  have HBB := Lib.hid hB
  clear h hg0 hx hac hp hz hB
  go_enter Try.func9, Try.ntmps9
  go_upto_region 26 with (fail)
  obtain ⟨w1, hw1⟩ : ∃ w1, w.alloc (.cells #[.int .i64 9, .int .u64 (b : Nat), .int .u64 (s : Nat), .bool rd, .bool wrt, .bool ex, .bool sc, .bool sec, .int .i64 ac, .int .u64 (p : Nat), .int .u64 (z : Nat), .slice B n cb] 38) = w1 := ⟨_, rfl⟩
  try rw [hw1]
  have hw1' : w.alloc (.cells ([.int .i64 9, .int .u64 (b : Nat), .int .u64 (s : Nat), .bool rd, .bool wrt, .bool ex, .bool sc, .bool sec, .int .i64 ac, .int .u64 (p : Nat), .int .u64 (z : Nat), .slice B n cb] : List Value).toArray 38) = w1 := hw1
  rw [hw1] at HG0 HG
  rw [hw1'] at HX
  clear hw1 hw1'
  obtain ⟨E, hE⟩ : ∃ E, clE p n = E := ⟨_, rfl⟩
  have HE := Lib.hid hE
  clear hE
  refine wp_region_L (fun w_ => Blk w_ w.heap.size 38 [.int .i64 9, .int .u64 (b : Nat), .int .u64 (s : Nat), .bool rd, .bool wrt, .bool ex, .bool sc, .bool sec, .int .i64 ac, .int .u64 (p : Nat), .int .u64 (z : Nat), .slice B n cb]) [] [] (by kernel_rfl) HX.out.drew ?_
  refine wpAnyL_take (oi := _) (v := _) (fun _ _ hS_ hb_ => hS_.gr hb_) (i := 0) rfl (by kernel_rfl) (fun _ _ _ h => h) (pureG (by rfl) (by intro w; go_simp; first | done | with_reducible rfl)) ?_
  try simp only [Act.put, List.getElem_toArray, List.getElem_cons_succ, List.getElem_cons_zero, List.setIfInBounds_toArray, List.set_cons_zero, List.set_cons_succ]
  refine wpAnyL_take (oi := _) (v := _) (fun _ _ hS_ hb_ => hS_.gr hb_) (i := 1) rfl (by kernel_rfl) (fun _ _ _ h => h) (pureG (by rfl) (by intro w; go_simp; first | done | with_reducible rfl)) ?_
  try simp only [Act.put, List.getElem_toArray, List.getElem_cons_succ, List.getElem_cons_zero, List.setIfInBounds_toArray, List.set_cons_zero, List.set_cons_succ]
  refine wpAnyL_take (oi := _) (v := _) (fun _ _ hS_ hb_ => hS_.gr hb_) (i := 2) rfl (by kernel_rfl) (fun _ _ _ h => h) (worldG (by rfl) (by intro w_ hS_; have q0 : w_.cell? ⟨w.heap.size, 9, none⟩ = some (.int .u64 (p : Nat)) := hS_.cell 9; go_simp; first | done | with_reducible rfl)) ?_
  try simp only [Act.put, List.getElem_toArray, List.getElem_cons_succ, List.getElem_cons_zero, List.setIfInBounds_toArray, List.set_cons_zero, List.set_cons_succ]
  refine wpAnyL_take (oi := _) (v := _) (fun _ _ hS_ hb_ => hS_.gr hb_) (i := 3) rfl (by kernel_rfl) (fun _ _ _ h => h) (pureG (by rfl) (by intro w; go_simp; first | done | with_reducible rfl)) ?_
  try simp only [Act.put, List.getElem_toArray, List.getElem_cons_succ, List.getElem_cons_zero, List.setIfInBounds_toArray, List.set_cons_zero, List.set_cons_succ]
  refine wpAnyL_take (oi := _) (v := _) (fun _ _ hS_ hb_ => hS_.gr hb_) (i := 4) rfl (by kernel_rfl) (fun _ _ _ h => h) (worldG (by rfl) (by intro w_ hS_; have q0 : w_.cell? ⟨w.heap.size, 11, none⟩ = some (.slice B n cb) := hS_.cell 11; go_simp; first | done | with_reducible rfl)) ?_
  try simp only [Act.put, List.getElem_toArray, List.getElem_cons_succ, List.getElem_cons_zero, List.setIfInBounds_toArray, List.set_cons_zero, List.set_cons_succ]
  refine wpAnyL_take (oi := _) (v := _) (fun _ _ hS_ hb_ => hS_.gr hb_) (i := 6) rfl (by kernel_rfl) (fun _ _ _ h => h) (pureG (by rfl) (by intro w; go_simp; first | done | with_reducible rfl)) ?_
  try simp only [Act.put, List.getElem_toArray, List.getElem_cons_succ, List.getElem_cons_zero, List.setIfInBounds_toArray, List.set_cons_zero, List.set_cons_succ]
  refine wpAnyL_take (oi := _) (v := _) (fun _ _ hS_ hb_ => hS_.gr hb_) (i := 7) rfl (by kernel_rfl) (fun _ _ _ h => h) (pureG (by rfl) (by intro w; go_simp; first | done | with_reducible rfl)) ?_
  try simp only [Act.put, List.getElem_toArray, List.getElem_cons_succ, List.getElem_cons_zero, List.setIfInBounds_toArray, List.set_cons_zero, List.set_cons_succ]
  refine wpAnyL_take (oi := _) (v := _) (fun _ _ hS_ hb_ => hS_.gr hb_) (i := 8) rfl (by kernel_rfl) (fun _ _ _ h => h) (worldG (by rfl) (by intro w_ hS_; have q0 : w_.cell? ⟨w.heap.size, 9, none⟩ = some (.int .u64 (p : Nat)) := hS_.cell 9; go_simp; first | done | with_reducible rfl)) ?_
  try simp only [Act.put, List.getElem_toArray, List.getElem_cons_succ, List.getElem_cons_zero, List.setIfInBounds_toArray, List.set_cons_zero, List.set_cons_succ]
  refine wpAnyL_take (oi := _) (v := _) (fun _ _ hS_ hb_ => hS_.gr hb_) (i := 9) rfl (by kernel_rfl) (fun _ _ _ h => h) (pureG (by rfl) (by intro w; go_simp; first | done | with_reducible rfl)) ?_
  try simp only [Act.put, List.getElem_toArray, List.getElem_cons_succ, List.getElem_cons_zero, List.setIfInBounds_toArray, List.set_cons_zero, List.set_cons_succ]
  refine wpAnyL_take (oi := _) (v := _) (fun _ _ hS_ hb_ => hS_.gr hb_) (i := 10) rfl (by kernel_rfl) (fun _ _ _ h => h) (worldG (by rfl) (by intro w_ hS_; have q0 : w_.cell? ⟨w.heap.size, 11, none⟩ = some (.slice B n cb) := hS_.cell 11; go_simp; first | done | with_reducible rfl)) ?_
  try simp only [Act.put, List.getElem_toArray, List.getElem_cons_succ, List.getElem_cons_zero, List.setIfInBounds_toArray, List.set_cons_zero, List.set_cons_succ]
  refine wpAnyL_one (i := 5) (by kernel_rfl) rfl (fun W1 hW1 hS1 => ?_)
  have hg1 : Gr w1 W1 := (Gr.drew w1).trans hW1
  have G1 := HG.out.grow hg1
  obtain ⟨A1, c1, hpa⟩ := G1.pa
  obtain ⟨A2, c2, hra⟩ := G1.ra
  have b1 : Below base w W1 := bel_gr ((HG0.out : Below w.heap.size w w1).mono HSZ.out) HG.out.sz hg1
  have cl := place_any base a p n cb B bl m t A1 c1 W1 hpa HG.out.km HG.out.ha HPU.out (HBB.out W1 b1)
  rw [HE.out] at cl
  refine wpOp_callE (i := 5) rfl (by rfl) rfl Try.func18 (by kernel_rfl) (by kernel_rfl) #[.pointer (some ⟨a, 0, none⟩), .int .u64 (p : Nat), .slice B n cb] (by simp [Act.eval]) (cl.mono ?_)
  rintro e W2 ⟨rfl, hpa2, hf2⟩
  refine ⟨_, rfl, hf2.blk hS1 (by decide), ?_⟩
  try simp only [Act.put, List.getElem_toArray, List.getElem_cons_succ, List.getElem_cons_zero, List.setIfInBounds_toArray, List.set_cons_zero, List.set_cons_succ]
  refine wpAnyL_one (i := 11) (by kernel_rfl) rfl (fun W3 hW3 hS3 => ?_)
  have hra3 := (hra.frP hf2).bel hW3
  have s2 : base ≤ W2.heap.size := Nat.le_trans G1.sz hf2.size
  have b3 : Below base w W3 := bel_gr (b1.trans (hf2.below G1.sz)) s2 hW3
  have s3 : base ≤ W3.heap.size := Nat.le_trans s2 hW3.size
  have cl2 := rplace_any base r p n cb B bl m t A2 c2 W3 hra3 HG.out.km HG.out.hr HPU.out (fun W hW => HBB.out W (b3.trans (hW.below s3)))
  rw [HE.out] at cl2
  refine wpOp_callE (i := 11) rfl (by rfl) rfl Try.func29 (by kernel_rfl) (by kernel_rfl) #[.pointer (some ⟨r, 0, none⟩), .int .u64 (p : Nat), .slice B n cb] (by simp [Act.eval]) (cl2.mono ?_)
  rintro e W4 ⟨rfl, hra4, hf4⟩
  refine ⟨_, rfl, hf4.blk hS3 (by decide), ?_⟩
  try simp only [Act.put, List.getElem_toArray, List.getElem_cons_succ, List.getElem_cons_zero, List.setIfInBounds_toArray, List.set_cons_zero, List.set_cons_succ]
  refine wpAnyL_take (oi := _) (v := _) (fun _ _ hS_ hb_ => hS_.gr hb_) (i := 12) rfl (by kernel_rfl) (fun _ _ _ h => h) (pureG (by rfl) (by intro w; go_simp; first | done | with_reducible rfl)) ?_
  try simp only [Act.put, List.getElem_toArray, List.getElem_cons_succ, List.getElem_cons_zero, List.setIfInBounds_toArray, List.set_cons_zero, List.set_cons_succ]
  refine wpAnyL_take (oi := _) (v := _) (fun _ _ hS_ hb_ => hS_.gr hb_) (i := 13) rfl (by kernel_rfl) (fun _ _ _ h => h) (pureG (by rfl) (by intro w; go_simp; first | done | with_reducible rfl)) ?_
  try simp only [Act.put, List.getElem_toArray, List.getElem_cons_succ, List.getElem_cons_zero, List.setIfInBounds_toArray, List.set_cons_zero, List.set_cons_succ]
  refine wpAnyL_done (by kernel_rfl) (fun WA hWA => ?_) _
  obtain ⟨A5, c5, hpa5⟩ := hpa2
  obtain ⟨A6, c6, hra6⟩ := hra4
  have HFIN := Lib.hid (show ∃ m t, Good base a r m t WA from ⟨_, _, ⟨A5, c5, ((hpa5.bel hW3).frD hf4).bel hWA⟩, ⟨A6, c6, hra6.bel hWA⟩, plM_ok HG.out.km (HBB.out _ b3).1.2.2.1, HG.out.kt, HG.out.ha, HG.out.hr, Nat.le_trans (Nat.le_trans s3 hf4.size) hWA.size⟩)
  have HBF := Lib.hid (show Below base w WA from bel_gr (b3.trans (hf4.below s3)) (Nat.le_trans s3 hf4.size) hWA)
  clear hpa5 hra6 hra3 b3 s3 s2 b1 G1 hg1 hra hpa cl cl2 hf2 hf4 hS1 hS3 hW1 hW3 hWA
  go_wp2_with fail
  go_ret
  exact ⟨by simp, HFIN.out, HBF.out⟩
end Go.Proofs.Ytelfhpmbnficfaa
