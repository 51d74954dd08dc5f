/- Parts of proofs of statements, each text behind those that it stands on. No condition of its own. -/
import Derived.Test.YtfffmoolkgheaaaY12
import Derived.Test.YtfffmoolkgheaaaY15
namespace Go.Proofs.Ytfffmoolkgheaaa
open Go.RowKit
set_option linter.unusedVariables false
set_option linter.unusedSimpArgs false
theorem info90' : (Try.prog.info? 90).map (·.size) = some 32 := by kernel_rfl
theorem i90 {l : List Nat} (h : l.length = 32) : (Try.prog.info? 90).map (·.size) = some (natsV .u8 l).length := by rw [info90', natsV_length, h]
theorem alloc90 (w : World) : (Instr.alloc 90 true (.tuple #[])).run Try.prog w = .ok (.pointer (some ⟨w.heap.size, 0, none⟩)) (w.alloc (.cells (natsV .u8 (zeros 32)).toArray 90)) := by go_simp; rfl
set_option maxRecDepth 100000 in
set_option maxHeartbeats 1600000 in
theorem enc_inf (w : World) 
    (c1 : ∀ w, Calls Try.prog 67 #[] w fun e w' => e = .returned (.agg (pv (zeros 4) (zeros 4) true).toArray) ∧ Below w.heap.size w w') :
    Calls Try.prog 26 #[.agg (pv (zeros 4) (zeros 4) true).toArray] w fun e w' => e = .returned (.tuple #[.slice none 0 0, .int .i64 62]) ∧ Below w.heap.size w w' := by
  have Hc1 := Lib.hid c1
  clear c1
  have QE := Lib.hid (fun w => (eql43 (zeros 4) (zeros 4) (zeros 4) (zeros 4) true true rfl rfl rfl rfl w).trans (by rw [decide_eq_true ⟨rfl, rfl, rfl⟩]))
  have B0_ := Lib.hid (Blk.new w  43 (pv (zeros 4) (zeros 4) true))
  have bel_ := ((Below.refl w.heap.size w).alloc (Nat.le_refl _) (.cells (pv (zeros 4) (zeros 4) true).toArray 43))
  go_enter Try.func26, Try.ntmps26
  go_wp2_with fail
  as_aux_lemma =>
  refine wp_region_G (fun w_ => Blk w_ w.heap.size 43 (pv (zeros 4) (zeros 4) true)) 8 (by kernel_rfl) B0_.out.drew ?_
  refine wpAnyG_take (fun _ _ hS_ hb_ => hS_.gr hb_) (i := 0) rfl (by kernel_rfl) (fun _ _ _ h => h) (loadG (by rfl) _ _ rfl _ _ rfl (pv (zeros 4) (zeros 4) true) _ (fun _ hS_ => blk_all (hS_)) Try.underlying43 rfl (i43 rfl rfl)) ?_
  try simp only [Act.put, zq1, zq2, zq3, zq4, zq5, zq6]
  refine wpAnyG_take (fun _ _ hS_ hb_ => hS_.gr hb_) (i := 1) rfl (by kernel_rfl) (fun _ _ _ h => h) (callG (by rfl) rfl Try.func67 (by kernel_rfl) (by kernel_rfl) (#[]) (by simp [Act.eval]) (fun W_ _ => Hc1.out W_)) ?_
  try simp only [Act.put, zq1, zq2, zq3, zq4, zq5, zq6]
  refine wpAnyG_take (fun _ _ hS_ hb_ => hS_.gr hb_) (i := 2) rfl (by kernel_rfl) (fun _ _ _ h => h) (pureG (by rfl) (by intro w; have q := QE.out; go_simp; first | done | with_reducible rfl)) ?_
  try simp only [Act.put, zq1, zq2, zq3, zq4, zq5, zq6]
  refine wpAnyG_take (fun _ _ hS_ hb_ => hS_.gr hb_) (i := 3) rfl (by kernel_rfl) (fun _ _ _ h => h) (pureG (by rfl) (by intro w; go_simp; first | done | with_reducible rfl)) ?_
  try simp only [Act.put, zq1, zq2, zq3, zq4, zq5, zq6]
  refine wpAnyG_take (fun _ _ hS_ hb_ => hS_.gr hb_) (i := 4) rfl (by kernel_rfl) (fun _ _ _ h => h) (skipG (by rfl)) ?_
  try simp only [Act.put, zq1, zq2, zq3, zq4, zq5, zq6]
  refine wpAnyG_take (fun _ _ hS_ hb_ => hS_.gr hb_) (i := 5) rfl (by kernel_rfl) (fun _ _ _ h => h) (skipG (by rfl)) ?_
  try simp only [Act.put, zq1, zq2, zq3, zq4, zq5, zq6]
  refine wpAnyG_take (fun _ _ hS_ hb_ => hS_.gr hb_) (i := 6) rfl (by kernel_rfl) (fun _ _ _ h => h) (skipG (by rfl)) ?_
  try simp only [Act.put, zq1, zq2, zq3, zq4, zq5, zq6]
  refine wpAnyG_take (fun _ _ hS_ hb_ => hS_.gr hb_) (i := 7) rfl (by kernel_rfl) (fun _ _ _ h => h) (pureG (by rfl) (by intro w; go_simp; first | done | with_reducible rfl)) ?_
  try simp only [Act.put, zq1, zq2, zq3, zq4, zq5, zq6]
  refine wpAnyG_done (by kernel_rfl) ?_ _
  intro w1 hgw1
  try simp only [Act.put, zq1, zq2, zq3, zq4, zq5, zq6]
  have E2 := Lib.hid (B0_.out.drew.gr hgw1)
  clear B0_
  have hbel3 := bel_.drew.trans (Below.mono hgw1 bel_.drew.size)
  clear bel_
  clear hgw1
  as_aux_lemma =>
  go_wp2_with fail
  go_ret2
  exact ⟨rfl, hbel3⟩
set_option maxRecDepth 100000 in
set_option maxHeartbeats 1600000 in
theorem enc_off {lx ly : List Nat} {ip : Bool} (w : World) (hlx : lx.length = 4) (hly : ly.length = 4)
    (hne : ¬ (lx = zeros 4 ∧ ly = zeros 4 ∧ ip = true))
    (c1 : ∀ w, Calls Try.prog 67 #[] w fun e w' => e = .returned (.agg (pv (zeros 4) (zeros 4) true).toArray) ∧ Below w.heap.size w w')
    (c2 : ∀ w, Calls Try.prog 29 #[.agg (pv lx ly ip).toArray] w fun e w' => e = .returned (.bool false) ∧ Below w.heap.size w w') :
    Calls Try.prog 26 #[.agg (pv lx ly ip).toArray] w fun e w' => e = .returned (.tuple #[.slice none 0 0, .int .i64 62]) ∧ Below w.heap.size w w' := by
  have L_lx := Lib.hid hlx
  clear hlx
  have L_ly := Lib.hid hly
  clear hly
  have Hc1 := Lib.hid c1
  clear c1
  have Hc2 := Lib.hid c2
  clear c2
  have QE := Lib.hid (fun w => (eql43 lx ly (zeros 4) (zeros 4) ip true L_lx.out L_ly.out rfl rfl w).trans (by rw [decide_eq_false hne]))
  clear hne
  have B0_ := Lib.hid (Blk.new w  43 (pv lx ly ip))
  have bel_ := ((Below.refl w.heap.size w).alloc (Nat.le_refl _) (.cells (pv lx ly ip).toArray 43))
  go_enter Try.func26, Try.ntmps26
  go_wp2_with fail
  as_aux_lemma =>
  refine wp_region_G (fun w_ => Blk w_ w.heap.size 43 (pv lx ly ip)) 8 (by kernel_rfl) B0_.out.drew ?_
  refine wpAnyG_take (fun _ _ hS_ hb_ => hS_.gr hb_) (i := 0) rfl (by kernel_rfl) (fun _ _ _ h => h) (loadG (by rfl) _ _ rfl _ _ rfl (pv lx ly ip) _ (fun _ hS_ => blk_all (hS_)) Try.underlying43 rfl (i43 L_lx.out L_ly.out)) ?_
  try simp only [Act.put, zq1, zq2, zq3, zq4, zq5, zq6]
  refine wpAnyG_take (fun _ _ hS_ hb_ => hS_.gr hb_) (i := 1) rfl (by kernel_rfl) (fun _ _ _ h => h) (callG (by rfl) rfl Try.func67 (by kernel_rfl) (by kernel_rfl) (#[]) (by simp [Act.eval]) (fun W_ _ => Hc1.out W_)) ?_
  try simp only [Act.put, zq1, zq2, zq3, zq4, zq5, zq6]
  refine wpAnyG_take (fun _ _ hS_ hb_ => hS_.gr hb_) (i := 2) rfl (by kernel_rfl) (fun _ _ _ h => h) (pureG (by rfl) (by intro w; have q := QE.out; go_simp; first | done | with_reducible rfl)) ?_
  try simp only [Act.put, zq1, zq2, zq3, zq4, zq5, zq6]
  refine wpAnyG_take (fun _ _ hS_ hb_ => hS_.gr hb_) (i := 3) rfl (by kernel_rfl) (fun _ _ _ h => h) (pureG (by rfl) (by intro w; go_simp; first | done | with_reducible rfl)) ?_
  try simp only [Act.put, zq1, zq2, zq3, zq4, zq5, zq6]
  refine wpAnyG_take (fun _ _ hS_ hb_ => hS_.gr hb_) (i := 4) rfl (by kernel_rfl) (fun _ _ _ h => h) (loadG (by rfl) _ _ rfl _ _ rfl (pv lx ly ip) _ (fun _ hS_ => blk_all (hS_)) Try.underlying43 rfl (i43 L_lx.out L_ly.out)) ?_
  try simp only [Act.put, zq1, zq2, zq3, zq4, zq5, zq6]
  refine wpAnyG_take (fun _ _ hS_ hb_ => hS_.gr hb_) (i := 5) rfl (by kernel_rfl) (fun _ _ _ h => h) (callG (by rfl) rfl Try.func29 (by kernel_rfl) (by kernel_rfl) (#[.agg (pv lx ly ip).toArray]) (by simp [Act.eval]) (fun W_ _ => Hc2.out W_)) ?_
  try simp only [Act.put, zq1, zq2, zq3, zq4, zq5, zq6]
  refine wpAnyG_take (fun _ _ hS_ hb_ => hS_.gr hb_) (i := 6) rfl (by kernel_rfl) (fun _ _ _ h => h) (pureG (by rfl) (by intro w; go_simp; first | done | with_reducible rfl)) ?_
  try simp only [Act.put, zq1, zq2, zq3, zq4, zq5, zq6]
  refine wpAnyG_take (fun _ _ hS_ hb_ => hS_.gr hb_) (i := 7) rfl (by kernel_rfl) (fun _ _ _ h => h) (pureG (by rfl) (by intro w; go_simp; first | done | with_reducible rfl)) ?_
  try simp only [Act.put, zq1, zq2, zq3, zq4, zq5, zq6]
  refine wpAnyG_done (by kernel_rfl) ?_ _
  intro w1 hgw1
  try simp only [Act.put, zq1, zq2, zq3, zq4, zq5, zq6]
  have E2 := Lib.hid (B0_.out.drew.gr hgw1)
  clear B0_
  have hbel3 := bel_.drew.trans (Below.mono hgw1 bel_.drew.size)
  clear bel_
  clear hgw1
  as_aux_lemma =>
  go_wp2_with fail
  go_ret2
  exact ⟨rfl, hbel3⟩
set_option maxRecDepth 100000 in
set_option maxHeartbeats 1600000 in
theorem enc_ok {lx ly B1 B2 : List Nat} (w : World) (hlx : lx.length = 4) (hly : ly.length = 4) (hB1 : B1.length = 32) (hB2 : B2.length = 32)
    (hb1 : ∀ x ∈ B1, x < 256)
    (hb2 : ∀ x ∈ B2, x < 256)
    (c1 : ∀ w, Calls Try.prog 67 #[] w fun e w' => e = .returned (.agg (pv (zeros 4) (zeros 4) true).toArray) ∧ Below w.heap.size w w')
    (c2 : ∀ w, Calls Try.prog 29 #[.agg (pv lx ly false).toArray] w fun e w' => e = .returned (.bool true) ∧ Below w.heap.size w w')
    (c3 : ∀ w, Calls Try.prog 68 #[.agg (natsV .u64 lx).toArray] w fun e w' => e = .returned (.agg (natsV .u8 B1).toArray) ∧ Below w.heap.size w w')
    (c4 : ∀ w, Calls Try.prog 68 #[.agg (natsV .u64 ly).toArray] w fun e w' => e = .returned (.agg (natsV .u8 B2).toArray) ∧ Below w.heap.size w w') :
    Calls Try.prog 26 #[.agg (pv lx ly false).toArray] w (ListOwn 65 ([4] ++ B1 ++ B2) w) := by
  have L_lx := Lib.hid hlx
  clear hlx
  have L_ly := Lib.hid hly
  clear hly
  have L_B1 := Lib.hid hB1
  clear hB1
  have L_B2 := Lib.hid hB2
  clear hB2
  have Hc1 := Lib.hid c1
  clear c1
  have Hc2 := Lib.hid c2
  clear c2
  have Hc3 := Lib.hid c3
  clear c3
  have Hc4 := Lib.hid c4
  clear c4
  have HB1 := Lib.hid hb1
  clear hb1
  have HB2 := Lib.hid hb2
  clear hb2
  have QE := Lib.hid (fun w => (eql43 lx ly (zeros 4) (zeros 4) false true L_lx.out L_ly.out rfl rfl w).trans (by rw [decide_eq_false (fun h => by cases h.2.2)]))
  have B0_ := Lib.hid (Blk.new w  43 (pv lx ly false))
  have bel_ := ((Below.refl w.heap.size w).alloc (Nat.le_refl _) (.cells (pv lx ly false).toArray 43))
  go_enter Try.func26, Try.ntmps26
  go_wp2_with fail
  as_aux_lemma =>
  refine wp_region_G (fun w_ => Blk w_ w.heap.size 43 (pv lx ly false)) 8 (by kernel_rfl) B0_.out.drew ?_
  refine wpAnyG_take (fun _ _ hS_ hb_ => hS_.gr hb_) (i := 0) rfl (by kernel_rfl) (fun _ _ _ h => h) (loadG (by rfl) _ _ rfl _ _ rfl (pv lx ly false) _ (fun _ hS_ => blk_all (hS_)) Try.underlying43 rfl (i43 L_lx.out L_ly.out)) ?_
  try simp only [Act.put, zq1, zq2, zq3, zq4, zq5, zq6]
  refine wpAnyG_take (fun _ _ hS_ hb_ => hS_.gr hb_) (i := 1) rfl (by kernel_rfl) (fun _ _ _ h => h) (callG (by rfl) rfl Try.func67 (by kernel_rfl) (by kernel_rfl) (#[]) (by simp [Act.eval]) (fun W_ _ => Hc1.out W_)) ?_
  try simp only [Act.put, zq1, zq2, zq3, zq4, zq5, zq6]
  refine wpAnyG_take (fun _ _ hS_ hb_ => hS_.gr hb_) (i := 2) rfl (by kernel_rfl) (fun _ _ _ h => h) (pureG (by rfl) (by intro w; have q := QE.out; go_simp; first | done | with_reducible rfl)) ?_
  try simp only [Act.put, zq1, zq2, zq3, zq4, zq5, zq6]
  refine wpAnyG_take (fun _ _ hS_ hb_ => hS_.gr hb_) (i := 3) rfl (by kernel_rfl) (fun _ _ _ h => h) (pureG (by rfl) (by intro w; go_simp; first | done | with_reducible rfl)) ?_
  try simp only [Act.put, zq1, zq2, zq3, zq4, zq5, zq6]
  refine wpAnyG_take (fun _ _ hS_ hb_ => hS_.gr hb_) (i := 4) rfl (by kernel_rfl) (fun _ _ _ h => h) (loadG (by rfl) _ _ rfl _ _ rfl (pv lx ly false) _ (fun _ hS_ => blk_all (hS_)) Try.underlying43 rfl (i43 L_lx.out L_ly.out)) ?_
  try simp only [Act.put, zq1, zq2, zq3, zq4, zq5, zq6]
  refine wpAnyG_take (fun _ _ hS_ hb_ => hS_.gr hb_) (i := 5) rfl (by kernel_rfl) (fun _ _ _ h => h) (callG (by rfl) rfl Try.func29 (by kernel_rfl) (by kernel_rfl) (#[.agg (pv lx ly false).toArray]) (by simp [Act.eval]) (fun W_ _ => Hc2.out W_)) ?_
  try simp only [Act.put, zq1, zq2, zq3, zq4, zq5, zq6]
  refine wpAnyG_take (fun _ _ hS_ hb_ => hS_.gr hb_) (i := 6) rfl (by kernel_rfl) (fun _ _ _ h => h) (pureG (by rfl) (by intro w; go_simp; first | done | with_reducible rfl)) ?_
  try simp only [Act.put, zq1, zq2, zq3, zq4, zq5, zq6]
  refine wpAnyG_take (fun _ _ hS_ hb_ => hS_.gr hb_) (i := 7) rfl (by kernel_rfl) (fun _ _ _ h => h) (pureG (by rfl) (by intro w; go_simp; first | done | with_reducible rfl)) ?_
  try simp only [Act.put, zq1, zq2, zq3, zq4, zq5, zq6]
  refine wpAnyG_done (by kernel_rfl) ?_ _
  intro w1 hgw1
  try simp only [Act.put, zq1, zq2, zq3, zq4, zq5, zq6]
  have E2 := Lib.hid (B0_.out.drew.gr hgw1)
  clear B0_
  have hbel3 := bel_.drew.trans (Below.mono hgw1 bel_.drew.size)
  clear bel_
  clear hgw1
  as_aux_lemma =>
  go_wp2_with fail
  as_aux_lemma =>
  refine wp_region_G (fun w_ => Blk w_ w.heap.size 43 (pv lx ly false)) 9 (by kernel_rfl) E2.out.drew ?_
  refine wpAnyG_take (fun _ _ hS_ hb_ => hS_.gr hb_) (i := 0) rfl (by kernel_rfl) (fun _ _ _ h => h) (pureG (by rfl) (by intro w; go_simp; first | done | with_reducible rfl)) ?_
  try simp only [Act.put, zq1, zq2, zq3, zq4, zq5, zq6]
  refine wpAnyG_take (fun _ _ hS_ hb_ => hS_.gr hb_) (i := 1) rfl (by kernel_rfl) (fun _ _ _ h => h) (loadG (by rfl) _ _ rfl _ _ rfl (natsV .u64 lx) _ (fun _ hS_ => pv_x (hS_)) Try.underlying24 rfl (i24 L_lx.out)) ?_
  try simp only [Act.put, zq1, zq2, zq3, zq4, zq5, zq6]
  refine wpAnyG_take (fun _ _ hS_ hb_ => hS_.gr hb_) (i := 2) rfl (by kernel_rfl) (fun _ _ _ h => h) (callG (by rfl) rfl Try.func68 (by kernel_rfl) (by kernel_rfl) (#[.agg (natsV .u64 lx).toArray]) (by simp [Act.eval]) (fun W_ _ => Hc3.out W_)) ?_
  try simp only [Act.put, zq1, zq2, zq3, zq4, zq5, zq6]
  refine wpAnyG_take (fun _ _ hS_ hb_ => hS_.gr hb_) (i := 3) rfl (by kernel_rfl) (fun _ _ _ h => h) (pureG (by rfl) (by intro w; go_simp; first | done | with_reducible rfl)) ?_
  try simp only [Act.put, zq1, zq2, zq3, zq4, zq5, zq6]
  refine wpAnyG_take (fun _ _ hS_ hb_ => hS_.gr hb_) (i := 4) rfl (by kernel_rfl) (fun _ _ _ h => h) (loadG (by rfl) _ _ rfl _ _ rfl (natsV .u64 ly) _ (fun _ hS_ => pv_y (hS_) L_lx.out) Try.underlying24 rfl (i24 L_ly.out)) ?_
  try simp only [Act.put, zq1, zq2, zq3, zq4, zq5, zq6]
  refine wpAnyG_take (fun _ _ hS_ hb_ => hS_.gr hb_) (i := 5) rfl (by kernel_rfl) (fun _ _ _ h => h) (callG (by rfl) rfl Try.func68 (by kernel_rfl) (by kernel_rfl) (#[.agg (natsV .u64 ly).toArray]) (by simp [Act.eval]) (fun W_ _ => Hc4.out W_)) ?_
  try simp only [Act.put, zq1, zq2, zq3, zq4, zq5, zq6]
  refine wpAnyG_def2 (i := 6) (j := 7) (k := 8) (l := 9) (fun _ _ hS_ hb_ => hS_.gr hb_) (by kernel_rfl) (by kernel_rfl) (by kernel_rfl) (by kernel_rfl) (by kernel_rfl) (by kernel_rfl) (by decide) rfl rfl rfl rfl rfl (allocG (by rfl) rfl _ alloc90) (allocG (by rfl) rfl _ alloc90) (fun _ => allocG (by rfl) rfl _ alloc90) (fun _ => allocG (by rfl) rfl _ alloc90) (fun _ _ => rfl) (lenEq (show (natsV .u8 (zeros 32)).length = 32 from rfl) (by rw [natsV_length, L_B1.out])) (lenEq (show (natsV .u8 (zeros 32)).length = 32 from rfl) (by rw [natsV_length, L_B2.out])) (fun _ _ => StoresG.mk (cs := (natsV .u8 B1)) (by rfl) 90 _ _ rfl rfl rfl (i90 L_B1.out) (natsV_one _ _)) (fun _ _ => StoresG.mk (cs := (natsV .u8 B2)) (by rfl) 90 _ _ rfl rfl rfl (i90 L_B2.out) (natsV_one _ _)) (fun g_ w_ hS_ hz_ hb_ => (hS_.gr hb_).row _ (Nat.ne_of_lt (Nat.lt_of_lt_of_le hS_.lt hz_))) (E2.out.drew) ?_
  intro w4 G5 G6 hgw4 hz_ hz2_ hne_ hn_ hn2_
  try simp only [Act.put, zq1, zq2, zq3, zq4, zq5, zq6]
  have E7 := Lib.hid (E2.out.drew.gr hgw4)
  clear E2
  have hbel8 := hbel3.drew.trans (Below.mono hgw4 hbel3.drew.size)
  clear hbel3
  have D9 := Lib.hid hn_
  have D10 := Lib.hid hn2_
  clear hn_ hn2_ hz_ hz2_ hne_ hgw4
  as_aux_lemma =>
  have hmk := hmk65
  have HZ := Lib.hid ((mk_made 65 (by unfold maxLen; omega) w4).alloc (.cells #[.int .u8 (4 : Nat)] 5))
  have HN : Hid (BIn ((w4.alloc (.cells (natsV .u8 (zeros 65)).toArray 5)).alloc (.cells #[.int .u8 (4 : Nat)] 5)) (some ⟨w4.heap.size + 1, 0, none⟩) 1 1 [4]) := Lib.hid (by have h := bin_one (w4.alloc (.cells (natsV .u8 (zeros 65)).toArray 5)) 4 (by decide); rw [show (w4.alloc (.cells (natsV .u8 (zeros 65)).toArray 5)).heap.size = w4.heap.size + 1 by simp] at h; exact h)
  have hb0 := ((Below.refl w4.heap.size w4).alloc (Nat.le_refl _) (.cells (natsV .u8 (zeros 65)).toArray 5)).alloc (by simp) (.cells #[.int .u8 (4 : Nat)] 5)
  go_wp2_with (at_builtin; refine wpList_append_bytes _ rfl _ _ rfl w4.heap.size (.slice (some ⟨w4.heap.size, 0, none⟩) 0 65) 0 [] rfl HZ.out (some ⟨w4.heap.size + 1, 0, none⟩) 1 1 [4] rfl HN.out ?c1A11 ?c2A11 ?_)
  case c1A11 => omega
  case c2A11 => exact hb0.size
  intro vA11 w12 oA11 gA11
  have nA11 := hb0.grown gA11 hb0.size (fun j hj => (HZ.out.lt j hj).1)
  have H1 := Lib.hid (show w12.ownsRow w4.heap.size 5 1 vA11 1 (bytesV [4]) from oA11)
  clear hmk HZ HN hb0 oA11 gA11
  have HX := Lib.hid (bin_blk (D9.out.gr nA11) L_B1.out HB1.out)
  go_wp2_with (at_builtin; refine wpList_append_bytes _ rfl _ _ rfl w4.heap.size vA11 1 ([4]) rfl H1.out (some ⟨G5, 0, none⟩) 32 32 B1 rfl HX.out ?c1A13 ?c2A13 ?_)
  case c1A13 => omega
  case c2A13 => exact nA11.size
  intro vA13 w14 oA13 gA13
  have nA13 := nA11.grown gA13 nA11.size (fun j hj => (H1.out.lt j hj).1)
  clear HX nA11
  have H33 := Lib.hid (show w14.ownsRow w4.heap.size 5 1 vA13 33 (bytesV ([4] ++ B1)) from oA13)
  clear oA13 gA13
  have HX := Lib.hid (bin_blk (D10.out.gr nA13) L_B2.out HB2.out)
  go_wp2_with (at_builtin; refine wpList_append_bytes _ rfl _ _ rfl w4.heap.size vA13 33 ([4] ++ B1) rfl H33.out (some ⟨G6, 0, none⟩) 32 32 B2 rfl HX.out ?c1A15 ?c2A15 ?_)
  case c1A15 => omega
  case c2A15 => exact nA13.size
  intro vA15 w16 oA15 gA15
  have nA15 := nA13.grown gA15 nA13.size (fun j hj => (H33.out.lt j hj).1)
  clear HX nA13
  have H65 := Lib.hid (show w16.ownsRow w4.heap.size 5 1 vA15 65 (bytesV ([4] ++ B1 ++ B2)) from oA15)
  clear oA15 gA15
  obtain ⟨G, cap, e65, _⟩ := own_form H65.out (by decide)
  rw [e65] at H65
  subst e65
  go_wp2_with fail
  go_ret2
  exact ⟨G, cap, rfl, own_base H65.out hbel8.size, hbel8.trans (Below.mono nA15 hbel8.size)⟩
end Go.Proofs.Ytfffmoolkgheaaa
namespace Go.Proofs.Ytfffmoolkgheaaa
open Go.RowKit
set_option linter.unusedVariables false
set_option linter.unusedSimpArgs false
def RetB (n : Nat) (l : List Nat) (w : World) (e : Ending) (w' : World) : Prop := ∃ g c, e = .returned (.slice (some ⟨g, 0, none⟩) n c) ∧ w'.ownsRow w.heap.size 5 1 (.slice (some ⟨g, 0, none⟩) n c) n (bytesV l) ∧ Below w.heap.size w w'
set_option maxRecDepth 100000 in
set_option maxHeartbeats 1600000 in
theorem denc_ok {lx ly B1 B2 : List Nat} (w : World) (hlx : lx.length = 4) (hly : ly.length = 4) (hB1 : B1.length = 32) (hB2 : B2.length = 32)
    (hb1 : ∀ x ∈ B1, x < 256)
    (hb2 : ∀ x ∈ B2, x < 256)
    (c1 : ∀ w, Calls Try.prog 75 #[.agg (natsV .u64 lx).toArray] w fun e w' => e = .returned (.agg (natsV .u8 B1).toArray) ∧ Below w.heap.size w w')
    (c2 : ∀ w, Calls Try.prog 75 #[.agg (natsV .u64 ly).toArray] w fun e w' => e = .returned (.agg (natsV .u8 B2).toArray) ∧ Below w.heap.size w w') :
    Calls Try.prog 34 #[.agg (pv lx ly false).toArray] w (RetB 65 ([4] ++ B1 ++ B2) w) := by
  have L_lx := Lib.hid hlx
  clear hlx
  have L_ly := Lib.hid hly
  clear hly
  have L_B1 := Lib.hid hB1
  clear hB1
  have L_B2 := Lib.hid hB2
  clear hB2
  have Hc1 := Lib.hid c1
  clear c1
  have Hc2 := Lib.hid c2
  clear c2
  have HB1 := Lib.hid hb1
  have HB2 := Lib.hid hb2
  clear hb1 hb2
  have B0_ := Lib.hid (Blk.new w  43 (pv lx ly false))
  have bel_ := ((Below.refl w.heap.size w).alloc (Nat.le_refl _) (.cells (pv lx ly false).toArray 43))
  go_enter Try.func34, Try.ntmps34
  go_wp2_with (first | (refine wpList_load_mid rfl 24 (.tmp 6) rfl w.heap.size 0 rfl (natsV .u64 lx) _ (pv_x (B0_.out)) Try.underlying24 rfl (i24 L_lx.out) ?_))
  refine (Hc1.out _).mono ?_
  rintro e w1 ⟨rfl, hbw1⟩
  have C2 := Lib.hid (B0_.out.gr hbw1)
  clear B0_
  have hbel3 := bel_.trans (Below.mono hbw1 bel_.size)
  clear bel_
  clear hbw1
  go_wp2_with (first | (refine stB rfl 90 (.tmp 3) (.tmp 8) rfl w1.heap.size rfl (natsV .u8 B1) rfl 90 (natsV .u8 (zeros 32)) (Blk.new w1 90 (natsV .u8 (zeros 32))) (i90 L_B1.out) (lenEq (show (natsV .u8 (zeros 32)).length = 32 from rfl) (by rw [natsV_length, L_B1.out])) (natsV_one _ _) ?_; generalize hW : World.setRow _ _ _ = w4; obtain ⟨hgw4, hnw4⟩ := newfacts hW; clear hW; have C7 := Lib.hid (C2.out.gr hgw4); clear C2; have hbel8 := hbel3.trans (Below.mono hgw4 hbel3.size); clear hbel3; have D6 := Lib.hid hnw4; have szw4 := hgw4.size; clear hnw4 hgw4 szw4; generalize w1.heap.size = G5 at *) | (refine wpList_load_mid rfl 24 (.tmp 9) rfl w.heap.size 4 rfl (natsV .u64 ly) _ (pv_y (C7.out) L_lx.out) Try.underlying24 rfl (i24 L_ly.out) ?_))
  refine (Hc2.out _).mono ?_
  rintro e w9 ⟨rfl, hbw9⟩
  have C10 := Lib.hid (C7.out.gr hbw9)
  clear C7
  have C11 := Lib.hid (D6.out.gr hbw9)
  clear D6
  have hbel12 := hbel8.trans (Below.mono hbw9 hbel8.size)
  clear hbel8
  clear hbw9
  go_upto_region 3 with (first | (refine stB rfl 90 (.tmp 4) (.tmp 11) rfl w9.heap.size rfl (natsV .u8 B2) rfl 90 (natsV .u8 (zeros 32)) (Blk.new w9 90 (natsV .u8 (zeros 32))) (i90 L_B2.out) (lenEq (show (natsV .u8 (zeros 32)).length = 32 from rfl) (by rw [natsV_length, L_B2.out])) (natsV_one _ _) ?_; generalize hW : World.setRow _ _ _ = w13; obtain ⟨hgw13, hnw13⟩ := newfacts hW; clear hW; have C16 := Lib.hid (C10.out.gr hgw13); clear C10; have C17 := Lib.hid (C11.out.gr hgw13); clear C11; have hbel18 := hbel12.trans (Below.mono hgw13 hbel12.size); clear hbel12; have D15 := Lib.hid hnw13; have szw13 := hgw13.size; clear hnw13 hgw13 szw13; generalize w9.heap.size = G14 at *))
  have HZ := Lib.hid (own_one w13 4)
  have hb0 := ((Below.refl w13.heap.size w13).alloc (Nat.le_refl _) (.cells #[.int .u8 (4 : Nat)] 5))
  have HX := Lib.hid (bin_blk (C17.out.gr hb0) L_B1.out HB1.out)
  go_wp2_with (at_builtin; refine wpList_append_bytes _ rfl _ _ rfl w13.heap.size (.slice (some ⟨w13.heap.size, 0, none⟩) 1 1) 1 [4] rfl HZ.out (some ⟨G5, 0, none⟩) 32 32 B1 rfl HX.out ?c1A19 ?c2A19 ?_)
  case c1A19 => omega
  case c2A19 => exact hb0.size
  intro vA19 w20 oA19 gA19
  have nA19 := hb0.grown gA19 hb0.size (fun j hj => (HZ.out.lt j hj).1)
  clear HX HZ hb0
  have H33 := Lib.hid (show w20.ownsRow w13.heap.size 5 1 vA19 33 (bytesV ([4] ++ B1)) from oA19)
  clear oA19 gA19
  have HX := Lib.hid (bin_blk (D15.out.gr nA19) L_B2.out HB2.out)
  go_wp2_with (at_builtin; refine wpList_append_bytes _ rfl _ _ rfl w13.heap.size vA19 33 ([4] ++ B1) rfl H33.out (some ⟨G14, 0, none⟩) 32 32 B2 rfl HX.out ?c1A21 ?c2A21 ?_)
  case c1A21 => omega
  case c2A21 => exact nA19.size
  intro vA21 w22 oA21 gA21
  have nA21 := nA19.grown gA21 nA19.size (fun j hj => (H33.out.lt j hj).1)
  have H65 := Lib.hid (show w22.ownsRow w13.heap.size 5 1 vA21 65 (bytesV ([4] ++ B1 ++ B2)) from oA21)
  clear oA21 gA21
  obtain ⟨G, cap, e65, _⟩ := own_form H65.out (by decide)
  rw [e65] at H65
  subst e65
  go_wp2_with fail
  go_ret
  exact ⟨G, cap, rfl, own_base H65.out hbel18.size, hbel18.trans (Below.mono nA21 hbel18.size)⟩
end Go.Proofs.Ytfffmoolkgheaaa
namespace Go.Proofs.Ytfffmoolkgheaaa
open Go.RowKit
set_option linter.unusedVariables false
section
variable {P : Program} {ops : Array Oper} {Q : Exit → Act → World → Prop} {md : Region.Mode} {S : World → Prop} {L : Nat}
def MakesG (P : Program) (ops : Array Oper) (o : Oper) (val : Nat → Value) (t : TypeId) (zs : List Value) (a : Act) : Prop :=
  Region.wanted o (yielded ops a.tmps) = true ∧ ∀ w, (execOp a.eval o).run P w = .ok (.value (val w.heap.size)) (w.alloc (.cells zs.toArray t))
theorem MakesG.wpOp {i : Nat} {o : Oper} {val : Nat → Value} {t : TypeId} {zs : List Value} {a : Act} (hi : ops[i]? = some o) (hy : MakesG P ops o val t zs a)
    {K : Act → World → Prop} {w : World} (h : K (a.put o.dst (val w.heap.size)) (w.alloc (.cells zs.toArray t))) : wpOp P ops Q i K a w := by
  unfold Go.wpOp
  simp only [hi, hy.1, if_true]
  refine .inl ?_
  unfold Oper.wp
  rw [hy.2 w]
  exact h
theorem wpAnyG_make {i : Nat} {oi : Oper} {val : Nat → Value} {t : TypeId} {zs : List Value} {fuel : Nat} {listed : Array Bool} {a : Act} {w : World} (hSg : ∀ w w', S w → Gr w w' → S w') (hr : Region.ready md ops listed = [i]) (hi : ops[i]? = some oi)
    (hy : MakesG P ops oi val t zs a)
    (h : ∀ W g, Gr w W → w.heap.size ≤ g → Blk W g t zs → wpAnyG P md ops Q S L fuel (listed.setIfInBounds i true) (a.put oi.dst (val g)) W) : wpAnyG P md ops Q S L (fuel + 1) listed a w := by
  intro w1 hg
  refine ⟨fun h0 => (by rw [h0] at hr; cases hr), fun hS j hj => ?_⟩
  rw [hr] at hj
  obtain rfl : j = i := by simpa using hj
  exact hy.wpOp hi ⟨.inr (hSg _ _ hS (Gr.alloc _ _)), h _ _ (hg.trans (Gr.alloc _ _)) hg.size (Blk.new _ _ _)⟩
theorem wpAnyG_make2 {i j : Nat} {oi oj : Oper} {val val2 : Nat → Value} {t t2 : TypeId} {zs zs2 : List Value} {fuel : Nat} {listed : Array Bool} {a : Act} {w : World} (hSg : ∀ w w', S w → Gr w w' → S w')
    (hr : Region.ready md ops listed = [i, j]) (hr1 : Region.ready md ops (listed.setIfInBounds i true) = [j]) (hr2 : Region.ready md ops (listed.setIfInBounds j true) = [i]) (hij : i ≠ j) (hi : ops[i]? = some oi) (hj : ops[j]? = some oj)
    (hy : MakesG P ops oi val t zs a) (hy2 : MakesG P ops oj val2 t2 zs2 a) (hyi : ∀ v, MakesG P ops oi val t zs (a.put oj.dst v)) (hyj : ∀ v, MakesG P ops oj val2 t2 zs2 (a.put oi.dst v))
    (hcm : ∀ u v, (a.put oi.dst u).put oj.dst v = (a.put oj.dst v).put oi.dst u)
    (h : ∀ W g g2, Gr w W → w.heap.size ≤ g → w.heap.size ≤ g2 → g ≠ g2 → Blk W g t zs → Blk W g2 t2 zs2 → wpAnyG P md ops Q S L fuel ((listed.setIfInBounds i true).setIfInBounds j true) ((a.put oi.dst (val g)).put oj.dst (val2 g2)) W) :
    wpAnyG P md ops Q S L (fuel + 1 + 1) listed a w := by
  intro w1 hg
  refine ⟨fun h0 => (by rw [h0] at hr; cases hr), fun hS k hk => ?_⟩
  rw [hr] at hk
  have hk' : k = i ∨ k = j := by simpa using hk
  rcases hk' with rfl | rfl
  · refine hy.wpOp hi ⟨.inr (hSg _ _ hS (Gr.alloc _ _)), ?_⟩
    refine wpAnyG_make hSg hr1 hj (hyj _) fun W g2 hW hg2 hb2 => ?_
    have hsz : (w1.alloc (.cells zs.toArray t)).heap.size = w1.heap.size + 1 := by simp
    have := hg.size
    exact h W w1.heap.size g2 ((hg.trans (Gr.alloc _ _)).trans hW) this (by omega) (by omega) ((Blk.new w1 t zs).gr hW) hb2
  · refine hy2.wpOp hj ⟨.inr (hSg _ _ hS (Gr.alloc _ _)), ?_⟩
    refine wpAnyG_make hSg hr2 hi (hyi _) fun W g hW hg1 hb1 => ?_
    have hsz : (w1.alloc (.cells zs2.toArray t2)).heap.size = w1.heap.size + 1 := by simp
    have := hg.size
    have hb2 := (Blk.new w1 t2 zs2).gr hW
    have := h W g w1.heap.size ((hg.trans (Gr.alloc _ _)).trans hW) (by omega) this (by omega) hb1 hb2
    rw [hcm, Array.setIfInBounds_comm _ _ hij] at this
    exact this
end
section
variable {ops : Array Oper} {Q : Exit → Act → World → Prop} {md : Region.Mode} {S : World → Prop} {L : Nat}
theorem wpAnyG_app {i : Nat} {o : Oper} {fuel : Nat} {listed : Array Bool} {a : Act} {w : World} (hr : Region.ready md ops listed = [i]) (hi : ops[i]? = some o) (hg : o.guard = none) (s x : Operand)
    (hop : o.op = Op.call { callee := Callee.builtin Builtin.append, args := #[s, x], argTypes := #[45, 45] }) (base : Nat) (v : Value) (n : Nat) (xs : List Nat) (hs : a.eval s = v) (hown : w.ownsRow base 5 1 v n (bytesV xs))
    (b off m c : Nat) (l : List Nat) (hx : a.eval x = .slice (some ⟨b, off, none⟩) m c) (hb : BIn w (some ⟨b, off, none⟩) m c l) (hfit : n + m ≤ 140737488355328) (hbase : base ≤ w.heap.size)
    (hSs : ∀ w1 W, S w1 → Below base w1 W → S W)
    (h : ∀ v' W, W.ownsRow base 5 1 v' (n + m) (bytesV (xs ++ l)) → Below base w W → wpAnyG Try.prog md ops Q S L fuel (listed.setIfInBounds i true) (a.put o.dst v') W) : wpAnyG Try.prog md ops Q S L (fuel + 1) listed a w := by
  intro w1 hg1
  refine ⟨fun h0 => (by rw [h0] at hr; cases hr), fun hS j hj => ?_⟩
  rw [hr] at hj
  obtain rfl : j = i := by simpa using hj
  have hw : Region.wanted o (yielded ops a.tmps) = true := by simp [Region.wanted, hg]
  have hown1 := own_below hown hg1
  have hb1 := hb.below hg1
  have hsz := hg1.size
  have hbw : Below base w w1 := (Below.refl base w).trans (Below.mono hg1 hbase)
  unfold Go.wpOp
  simp only [hi, hw, if_true]
  refine .inl ?_
  have k := step_append_bytes (w := w1) (a := a) (ops := ops) (Q := Q) (E := False) (K := fun a' w' => ((j = L ∧ Region.ready md ops (listed.setIfInBounds j true) = []) ∨ S w') ∧ wpAnyG Try.prog md ops Q S L fuel (listed.setIfInBounds j true) a' w') hg s x hop base v n xs hs hown1 b off m c l hx hb1 hfit (by omega) (fun v' w' h1 h2 => ?_)
  · rw [if_pos hw] at k; exact k
  · have hb2 : Below base w1 w' := (Below.refl base w1).grown h2 (by omega) (fun j hj => (hown1.lt j hj).1)
    exact ⟨.inr (hSs _ _ hS hb2), h v' w' h1 (hbw.trans hb2)⟩
end
end Go.Proofs.Ytfffmoolkgheaaa
