/- Parts of proofs of statements, each text behind those that it stands on. No condition of its own. -/
import Derived.Test.YtfffmoolkgheaaaZ40
import Derived.Test.YtfffmoolkgheaaaZ41
namespace Go.Proofs.Ytfffmoolkgheaaa
open Go.RowKit
set_option linter.unusedVariables false
set_option linter.unusedSimpArgs false
set_option maxRecDepth 100000 in
set_option maxHeartbeats 3200000 in
theorem adds_ok {lx ly mx my rx ry : List Nat} {ip iq ir : Bool} (hlx : lx.length = 4) (hly : ly.length = 4) (hmx : mx.length = 4) (hmy : my.length = 4) (hrx : rx.length = 4) (hry : ry.length = 4)
    (c1 : ∀ w, Calls Try.prog 24 #[] w fun e w' => e = .returned (.bool true) ∧ Below w.heap.size w w')
    (c2 : ∀ w, Calls Try.prog 38 #[.agg (pv lx ly ip).toArray, .agg (pv mx my iq).toArray] w fun e w' => e = .returned (.tuple #[.agg (pv rx ry ir).toArray, .int .i64 0]) ∧ Below w.heap.size w w')
    (c3 : ∀ w, Calls Try.prog 25 #[.agg (pv lx ly ip).toArray] w fun e w' => e = .returned (.bool true) ∧ Below w.heap.size w w')
    (c4 : ∀ w, Calls Try.prog 25 #[.agg (pv mx my iq).toArray] w fun e w' => e = .returned (.bool true) ∧ Below w.heap.size w w')
    (c5 : ∀ w, Calls Try.prog 39 #[.agg (pv lx ly ip).toArray, .agg (pv mx my iq).toArray] w fun e w' => e = .returned (.agg (pv rx ry ir).toArray) ∧ Below w.heap.size w w') (w : World) :
    Calls Try.prog 7 #[.agg (pv lx ly ip).toArray, .agg (pv mx my iq).toArray] w fun e w' => e = .returned (.bool true) ∧ Below w.heap.size w w' := by
  have L_lx := Lib.hid hlx
  clear hlx
  have L_ly := Lib.hid hly
  clear hly
  have L_mx := Lib.hid hmx
  clear hmx
  have L_my := Lib.hid hmy
  clear hmy
  have L_rx := Lib.hid hrx
  clear hrx
  have L_ry := Lib.hid hry
  clear hry
  have Hc1 := Lib.hid c1
  clear c1
  have Hc2 := Lib.hid c2
  clear c2
  have Hc3 := Lib.hid c3
  clear c3
  have Hc4 := Lib.hid c4
  clear c4
  have Hc5 := Lib.hid c5
  clear c5
  have QE := Lib.hid (fun w => (eql43 rx ry rx ry ir ir L_rx.out L_ry.out L_rx.out L_ry.out w).trans (by rw [decide_eq_true ⟨rfl, rfl, rfl⟩]))
  have B0_ := Lib.hid ((Blk.new w  43 (pv lx ly ip)).alloc (.cells (pv mx my iq).toArray 43))
  have B1_ := Lib.hid (Blk.new2 w (.cells (pv lx ly ip).toArray 43) 43 (pv mx my iq))
  have bel_ := (((Below.refl w.heap.size w).alloc (Nat.le_refl _) (.cells (pv lx ly ip).toArray 43)).alloc (by simp) (.cells (pv mx my iq).toArray 43))
  go_enter Try.func7, Try.ntmps7
  go_wp2_with fail
  refine (Hc1.out _).mono ?_
  rintro e w1 ⟨rfl, hbw1⟩
  have C2 := Lib.hid (B0_.out.gr hbw1)
  clear B0_
  have C3 := Lib.hid (B1_.out.gr hbw1)
  clear B1_
  have hbel4 := bel_.trans (Below.mono hbw1 bel_.size)
  clear bel_
  clear hbw1
  go_wp2_with (first | (refine wpList_load_mid rfl 43 (.tmp 2) rfl w.heap.size 0 rfl (pv lx ly ip) _ (blk_all (C2.out)) Try.underlying43 rfl (i43 L_lx.out L_ly.out) ?_) | (refine wpList_load_mid rfl 43 (.tmp 3) rfl (w.heap.size + 1) 0 rfl (pv mx my iq) _ (blk_all (C3.out)) Try.underlying43 rfl (i43 L_mx.out L_my.out) ?_))
  refine (Hc2.out _).mono ?_
  rintro e w5 ⟨rfl, hbw5⟩
  have C6 := Lib.hid (C2.out.gr hbw5)
  clear C2
  have C7 := Lib.hid (C3.out.gr hbw5)
  clear C3
  have hbel8 := hbel4.trans (Below.mono hbw5 hbel4.size)
  clear hbel4
  clear hbw5
  go_wp2_with (first | (refine stB rfl 43 (.tmp 6) (.tmp 15) rfl w5.heap.size rfl (pv rx ry ir) rfl 43 (pv (zeros 4) (zeros 4) false) (Blk.new w5 43 (pv (zeros 4) (zeros 4) false)) (i43 L_rx.out L_ry.out) (lenEq (show (pv (zeros 4) (zeros 4) false).length = 9 from rfl) (pv_len L_rx.out L_ry.out)) (pv_one _ _ _) ?_; generalize hW : World.setRow _ _ _ = w9; obtain ⟨hgw9, hnw9⟩ := newfacts hW; clear hW; have C12 := Lib.hid (C6.out.gr hgw9); clear C6; have C13 := Lib.hid (C7.out.gr hgw9); clear C7; have hbel14 := hbel8.trans (Below.mono hgw9 hbel8.size); clear hbel8; have D11 := Lib.hid hnw9; have szw9 := hgw9.size; clear hnw9 hgw9 szw9; generalize w5.heap.size = G10 at *) | (refine wpList_load_mid rfl 43 (.tmp 2) rfl w.heap.size 0 rfl (pv lx ly ip) _ (blk_all (C12.out)) Try.underlying43 rfl (i43 L_lx.out L_ly.out) ?_))
  refine (Hc3.out _).mono ?_
  rintro e w15 ⟨rfl, hbw15⟩
  have C16 := Lib.hid (C12.out.gr hbw15)
  clear C12
  have C17 := Lib.hid (C13.out.gr hbw15)
  clear C13
  have C18 := Lib.hid (D11.out.gr hbw15)
  clear D11
  have hbel19 := hbel14.trans (Below.mono hbw15 hbel14.size)
  clear hbel14
  clear hbw15
  go_wp2_with (first | (refine wpList_load_mid rfl 43 (.tmp 3) rfl (w.heap.size + 1) 0 rfl (pv mx my iq) _ (blk_all (C17.out)) Try.underlying43 rfl (i43 L_mx.out L_my.out) ?_))
  refine (Hc4.out _).mono ?_
  rintro e w20 ⟨rfl, hbw20⟩
  have C21 := Lib.hid (C16.out.gr hbw20)
  clear C16
  have C22 := Lib.hid (C17.out.gr hbw20)
  clear C17
  have C23 := Lib.hid (C18.out.gr hbw20)
  clear C18
  have hbel24 := hbel19.trans (Below.mono hbw20 hbel19.size)
  clear hbel19
  clear hbw20
  go_wp2_with fail
  as_aux_lemma =>
  refine wp_region_G (fun w_ => Blk w_ G10 43 (pv rx ry ir) ∧ Blk w_ w.heap.size 43 (pv lx ly ip) ∧ Blk w_ (w.heap.size + 1) 43 (pv mx my iq)) 13 (by kernel_rfl) ⟨C23.out.drew, C21.out.drew, C22.out.drew⟩ ?_
  refine wpAnyG_take (fun _ _ hS_ hb_ => ⟨hS_.1.gr hb_, hS_.2.1.gr hb_, hS_.2.2.gr hb_⟩) (i := 0) rfl (by kernel_rfl) (fun _ _ _ h => h) (pureG (by rfl) (by intro w; go_simp; first | done | with_reducible rfl)) ?_
  try simp only [Act.put, zq1, zq2, zq3, zq4, zq5, zq6]
  refine wpAnyG_take (fun _ _ hS_ hb_ => ⟨hS_.1.gr hb_, hS_.2.1.gr hb_, hS_.2.2.gr hb_⟩) (i := 1) rfl (by kernel_rfl) (fun _ _ _ h => h) (pureG (by rfl) (by intro w; go_simp; first | done | with_reducible rfl)) ?_
  try simp only [Act.put, zq1, zq2, zq3, zq4, zq5, zq6]
  refine wpAnyG_take (fun _ _ hS_ hb_ => ⟨hS_.1.gr hb_, hS_.2.1.gr hb_, hS_.2.2.gr hb_⟩) (i := 2) rfl (by kernel_rfl) (fun _ _ _ h => h) (pureG (by rfl) (by intro w; go_simp; first | done | with_reducible rfl)) ?_
  try simp only [Act.put, zq1, zq2, zq3, zq4, zq5, zq6]
  refine wpAnyG_take (fun _ _ hS_ hb_ => ⟨hS_.1.gr hb_, hS_.2.1.gr hb_, hS_.2.2.gr hb_⟩) (i := 3) rfl (by kernel_rfl) (fun _ _ _ h => h) (pureG (by rfl) (by intro w; go_simp; first | done | with_reducible rfl)) ?_
  try simp only [Act.put, zq1, zq2, zq3, zq4, zq5, zq6]
  refine wpAnyG_take (fun _ _ hS_ hb_ => ⟨hS_.1.gr hb_, hS_.2.1.gr hb_, hS_.2.2.gr hb_⟩) (i := 4) rfl (by kernel_rfl) (fun _ _ _ h => h) (pureG (by rfl) (by intro w; go_simp; first | done | with_reducible rfl)) ?_
  try simp only [Act.put, zq1, zq2, zq3, zq4, zq5, zq6]
  refine wpAnyG_take (fun _ _ hS_ hb_ => ⟨hS_.1.gr hb_, hS_.2.1.gr hb_, hS_.2.2.gr hb_⟩) (i := 5) rfl (by kernel_rfl) (fun _ _ _ h => h) (pureG (by rfl) (by intro w; go_simp; first | done | with_reducible rfl)) ?_
  try simp only [Act.put, zq1, zq2, zq3, zq4, zq5, zq6]
  refine wpAnyG_take (fun _ _ hS_ hb_ => ⟨hS_.1.gr hb_, hS_.2.1.gr hb_, hS_.2.2.gr hb_⟩) (i := 6) rfl (by kernel_rfl) (fun _ _ _ h => h) (loadG (by rfl) _ _ rfl _ _ rfl (pv rx ry ir) _ (fun _ hS_ => blk_all (hS_.1)) Try.underlying43 rfl (i43 L_rx.out L_ry.out)) ?_
  try simp only [Act.put, zq1, zq2, zq3, zq4, zq5, zq6]
  refine wpAnyG_take (fun _ _ hS_ hb_ => ⟨hS_.1.gr hb_, hS_.2.1.gr hb_, hS_.2.2.gr hb_⟩) (i := 7) rfl (by kernel_rfl) (fun _ _ _ h => h) (loadG (by rfl) _ _ rfl _ _ rfl (pv lx ly ip) _ (fun _ hS_ => blk_all (hS_.2.1)) Try.underlying43 rfl (i43 L_lx.out L_ly.out)) ?_
  try simp only [Act.put, zq1, zq2, zq3, zq4, zq5, zq6]
  refine wpAnyG_take (fun _ _ hS_ hb_ => ⟨hS_.1.gr hb_, hS_.2.1.gr hb_, hS_.2.2.gr hb_⟩) (i := 8) rfl (by kernel_rfl) (fun _ _ _ h => h) (loadG (by rfl) _ _ rfl _ _ rfl (pv mx my iq) _ (fun _ hS_ => blk_all (hS_.2.2)) Try.underlying43 rfl (i43 L_mx.out L_my.out)) ?_
  try simp only [Act.put, zq1, zq2, zq3, zq4, zq5, zq6]
  refine wpAnyG_take (fun _ _ hS_ hb_ => ⟨hS_.1.gr hb_, hS_.2.1.gr hb_, hS_.2.2.gr hb_⟩) (i := 9) rfl (by kernel_rfl) (fun _ _ _ h => h) (callG (by rfl) rfl Try.func39 (by kernel_rfl) (by kernel_rfl) (#[.agg (pv lx ly ip).toArray, .agg (pv mx my iq).toArray]) (by simp [Act.eval]) (fun w _ => Hc5.out w)) ?_
  try simp only [Act.put, zq1, zq2, zq3, zq4, zq5, zq6]
  refine wpAnyG_take (fun _ _ hS_ hb_ => ⟨hS_.1.gr hb_, hS_.2.1.gr hb_, hS_.2.2.gr hb_⟩) (i := 10) rfl (by kernel_rfl) (fun _ _ _ h => h) (pureG (by rfl) (by intro w; have q := QE.out; go_simp; first | done | with_reducible rfl)) ?_
  try simp only [Act.put, zq1, zq2, zq3, zq4, zq5, zq6]
  refine wpAnyG_take (fun _ _ hS_ hb_ => ⟨hS_.1.gr hb_, hS_.2.1.gr hb_, hS_.2.2.gr hb_⟩) (i := 11) rfl (by kernel_rfl) (fun _ _ _ h => h) (pureG (by rfl) (by intro w; go_simp; first | done | with_reducible rfl)) ?_
  try simp only [Act.put, zq1, zq2, zq3, zq4, zq5, zq6]
  refine wpAnyG_take (fun _ _ hS_ hb_ => ⟨hS_.1.gr hb_, hS_.2.1.gr hb_, hS_.2.2.gr hb_⟩) (i := 12) rfl (by kernel_rfl) (fun _ _ _ h => h) (pureG (by rfl) (by intro w; go_simp; first | done | with_reducible rfl)) ?_
  try simp only [Act.put, zq1, zq2, zq3, zq4, zq5, zq6]
  refine wpAnyG_done (by kernel_rfl) ?_ _
  intro w25 hgw25
  try simp only [Act.put, zq1, zq2, zq3, zq4, zq5, zq6]
  have E26 := Lib.hid (C21.out.drew.gr hgw25)
  clear C21
  have E27 := Lib.hid (C22.out.drew.gr hgw25)
  clear C22
  have E28 := Lib.hid (C23.out.drew.gr hgw25)
  clear C23
  have hbel29 := hbel24.drew.trans (Below.mono hgw25 hbel24.drew.size)
  clear hbel24
  clear hgw25
  as_aux_lemma =>
  go_wp2_with fail
  go_ret
  exact ⟨rfl, hbel29⟩
set_option maxRecDepth 100000 in
set_option maxHeartbeats 3200000 in
theorem adds_noa {lx ly mx my : List Nat} {ip iq bq : Bool} (hlx : lx.length = 4) (hly : ly.length = 4) (hmx : mx.length = 4) (hmy : my.length = 4)
    (c1 : ∀ w, Calls Try.prog 24 #[] w fun e w' => e = .returned (.bool true) ∧ Below w.heap.size w w')
    (c2 : ∀ w, Calls Try.prog 38 #[.agg (pv lx ly ip).toArray, .agg (pv mx my iq).toArray] w fun e w' => e = .returned (.tuple #[.agg (pv (zeros 4) (zeros 4) false).toArray, .int .i64 62]) ∧ Below w.heap.size w w')
    (c3 : ∀ w, Calls Try.prog 25 #[.agg (pv lx ly ip).toArray] w fun e w' => e = .returned (.bool false) ∧ Below w.heap.size w w')
    (c4 : ∀ w, Calls Try.prog 25 #[.agg (pv mx my iq).toArray] w fun e w' => e = .returned (.bool bq) ∧ Below w.heap.size w w') (w : World) :
    Calls Try.prog 7 #[.agg (pv lx ly ip).toArray, .agg (pv mx my iq).toArray] w fun e w' => e = .returned (.bool true) ∧ Below w.heap.size w w' := by
  have L_lx := Lib.hid hlx
  clear hlx
  have L_ly := Lib.hid hly
  clear hly
  have L_mx := Lib.hid hmx
  clear hmx
  have L_my := Lib.hid hmy
  clear hmy
  have Hc1 := Lib.hid c1
  clear c1
  have Hc2 := Lib.hid c2
  clear c2
  have Hc3 := Lib.hid c3
  clear c3
  have Hc4 := Lib.hid c4
  clear c4
  have QZ := Lib.hid (fun w => show (binOp .eql 43 (.agg (pv (zeros 4) (zeros 4) false).toArray) (.agg #[.int .u64 0, .int .u64 0, .int .u64 0, .int .u64 0, .int .u64 0, .int .u64 0, .int .u64 0, .int .u64 0, .bool false])).run Try.prog w = _ from (eql43 (zeros 4) (zeros 4) (zeros 4) (zeros 4) false false rfl rfl rfl rfl w).trans (by rw [decide_eq_true ⟨rfl, rfl, rfl⟩]))
  have B0_ := Lib.hid ((Blk.new w  43 (pv lx ly ip)).alloc (.cells (pv mx my iq).toArray 43))
  have B1_ := Lib.hid (Blk.new2 w (.cells (pv lx ly ip).toArray 43) 43 (pv mx my iq))
  have bel_ := (((Below.refl w.heap.size w).alloc (Nat.le_refl _) (.cells (pv lx ly ip).toArray 43)).alloc (by simp) (.cells (pv mx my iq).toArray 43))
  go_enter Try.func7, Try.ntmps7
  go_wp2_with fail
  refine (Hc1.out _).mono ?_
  rintro e w1 ⟨rfl, hbw1⟩
  have C2 := Lib.hid (B0_.out.gr hbw1)
  clear B0_
  have C3 := Lib.hid (B1_.out.gr hbw1)
  clear B1_
  have hbel4 := bel_.trans (Below.mono hbw1 bel_.size)
  clear bel_
  clear hbw1
  go_wp2_with (first | (refine wpList_load_mid rfl 43 (.tmp 2) rfl w.heap.size 0 rfl (pv lx ly ip) _ (blk_all (C2.out)) Try.underlying43 rfl (i43 L_lx.out L_ly.out) ?_) | (refine wpList_load_mid rfl 43 (.tmp 3) rfl (w.heap.size + 1) 0 rfl (pv mx my iq) _ (blk_all (C3.out)) Try.underlying43 rfl (i43 L_mx.out L_my.out) ?_))
  refine (Hc2.out _).mono ?_
  rintro e w5 ⟨rfl, hbw5⟩
  have C6 := Lib.hid (C2.out.gr hbw5)
  clear C2
  have C7 := Lib.hid (C3.out.gr hbw5)
  clear C3
  have hbel8 := hbel4.trans (Below.mono hbw5 hbel4.size)
  clear hbel4
  clear hbw5
  go_wp2_with (first | (refine stB rfl 43 (.tmp 6) (.tmp 15) rfl w5.heap.size rfl (pv (zeros 4) (zeros 4) false) rfl 43 (pv (zeros 4) (zeros 4) false) (Blk.new w5 43 (pv (zeros 4) (zeros 4) false)) (i43 rfl rfl) (lenEq (show (pv (zeros 4) (zeros 4) false).length = 9 from rfl) (show (pv (zeros 4) (zeros 4) false).length = 9 from rfl)) (pv_one _ _ _) ?_; generalize hW : World.setRow _ _ _ = w9; obtain ⟨hgw9, hnw9⟩ := newfacts hW; clear hW; have C12 := Lib.hid (C6.out.gr hgw9); clear C6; have C13 := Lib.hid (C7.out.gr hgw9); clear C7; have hbel14 := hbel8.trans (Below.mono hgw9 hbel8.size); clear hbel8; have D11 := Lib.hid hnw9; have szw9 := hgw9.size; clear hnw9 hgw9 szw9; generalize w5.heap.size = G10 at *) | (refine wpList_load_mid rfl 43 (.tmp 2) rfl w.heap.size 0 rfl (pv lx ly ip) _ (blk_all (C12.out)) Try.underlying43 rfl (i43 L_lx.out L_ly.out) ?_))
  refine (Hc3.out _).mono ?_
  rintro e w15 ⟨rfl, hbw15⟩
  have C16 := Lib.hid (C12.out.gr hbw15)
  clear C12
  have C17 := Lib.hid (C13.out.gr hbw15)
  clear C13
  have C18 := Lib.hid (D11.out.gr hbw15)
  clear D11
  have hbel19 := hbel14.trans (Below.mono hbw15 hbel14.size)
  clear hbel14
  clear hbw15
  go_wp2_with (first | (refine wpList_load_mid rfl 43 (.tmp 3) rfl (w.heap.size + 1) 0 rfl (pv mx my iq) _ (blk_all (C17.out)) Try.underlying43 rfl (i43 L_mx.out L_my.out) ?_))
  refine (Hc4.out _).mono ?_
  rintro e w20 ⟨rfl, hbw20⟩
  have C21 := Lib.hid (C16.out.gr hbw20)
  clear C16
  have C22 := Lib.hid (C17.out.gr hbw20)
  clear C17
  have C23 := Lib.hid (C18.out.gr hbw20)
  clear C18
  have hbel24 := hbel19.trans (Below.mono hbw20 hbel19.size)
  clear hbel19
  clear hbw20
  have qz := QZ.out
  go_wp2_with (first | (refine ldwM 43 (.tmp 6) rfl G10 0 rfl (pv (zeros 4) (zeros 4) false) _ (blk_all (C23.out)) Try.underlying43 rfl (i43 rfl rfl) 1 true rfl 28 rfl rfl ?_))
  go_ret
  exact ⟨rfl, hbel24⟩
set_option maxRecDepth 100000 in
set_option maxHeartbeats 3200000 in
theorem adds_nob {lx ly mx my : List Nat} {ip iq : Bool} (hlx : lx.length = 4) (hly : ly.length = 4) (hmx : mx.length = 4) (hmy : my.length = 4)
    (c1 : ∀ w, Calls Try.prog 24 #[] w fun e w' => e = .returned (.bool true) ∧ Below w.heap.size w w')
    (c2 : ∀ w, Calls Try.prog 38 #[.agg (pv lx ly ip).toArray, .agg (pv mx my iq).toArray] w fun e w' => e = .returned (.tuple #[.agg (pv (zeros 4) (zeros 4) false).toArray, .int .i64 62]) ∧ Below w.heap.size w w')
    (c3 : ∀ w, Calls Try.prog 25 #[.agg (pv lx ly ip).toArray] w fun e w' => e = .returned (.bool true) ∧ Below w.heap.size w w')
    (c4 : ∀ w, Calls Try.prog 25 #[.agg (pv mx my iq).toArray] w fun e w' => e = .returned (.bool false) ∧ Below w.heap.size w w') (w : World) :
    Calls Try.prog 7 #[.agg (pv lx ly ip).toArray, .agg (pv mx my iq).toArray] w fun e w' => e = .returned (.bool true) ∧ Below w.heap.size w w' := by
  have L_lx := Lib.hid hlx
  clear hlx
  have L_ly := Lib.hid hly
  clear hly
  have L_mx := Lib.hid hmx
  clear hmx
  have L_my := Lib.hid hmy
  clear hmy
  have Hc1 := Lib.hid c1
  clear c1
  have Hc2 := Lib.hid c2
  clear c2
  have Hc3 := Lib.hid c3
  clear c3
  have Hc4 := Lib.hid c4
  clear c4
  have QZ := Lib.hid (fun w => show (binOp .eql 43 (.agg (pv (zeros 4) (zeros 4) false).toArray) (.agg #[.int .u64 0, .int .u64 0, .int .u64 0, .int .u64 0, .int .u64 0, .int .u64 0, .int .u64 0, .int .u64 0, .bool false])).run Try.prog w = _ from (eql43 (zeros 4) (zeros 4) (zeros 4) (zeros 4) false false rfl rfl rfl rfl w).trans (by rw [decide_eq_true ⟨rfl, rfl, rfl⟩]))
  have B0_ := Lib.hid ((Blk.new w  43 (pv lx ly ip)).alloc (.cells (pv mx my iq).toArray 43))
  have B1_ := Lib.hid (Blk.new2 w (.cells (pv lx ly ip).toArray 43) 43 (pv mx my iq))
  have bel_ := (((Below.refl w.heap.size w).alloc (Nat.le_refl _) (.cells (pv lx ly ip).toArray 43)).alloc (by simp) (.cells (pv mx my iq).toArray 43))
  go_enter Try.func7, Try.ntmps7
  go_wp2_with fail
  refine (Hc1.out _).mono ?_
  rintro e w1 ⟨rfl, hbw1⟩
  have C2 := Lib.hid (B0_.out.gr hbw1)
  clear B0_
  have C3 := Lib.hid (B1_.out.gr hbw1)
  clear B1_
  have hbel4 := bel_.trans (Below.mono hbw1 bel_.size)
  clear bel_
  clear hbw1
  go_wp2_with (first | (refine wpList_load_mid rfl 43 (.tmp 2) rfl w.heap.size 0 rfl (pv lx ly ip) _ (blk_all (C2.out)) Try.underlying43 rfl (i43 L_lx.out L_ly.out) ?_) | (refine wpList_load_mid rfl 43 (.tmp 3) rfl (w.heap.size + 1) 0 rfl (pv mx my iq) _ (blk_all (C3.out)) Try.underlying43 rfl (i43 L_mx.out L_my.out) ?_))
  refine (Hc2.out _).mono ?_
  rintro e w5 ⟨rfl, hbw5⟩
  have C6 := Lib.hid (C2.out.gr hbw5)
  clear C2
  have C7 := Lib.hid (C3.out.gr hbw5)
  clear C3
  have hbel8 := hbel4.trans (Below.mono hbw5 hbel4.size)
  clear hbel4
  clear hbw5
  go_wp2_with (first | (refine stB rfl 43 (.tmp 6) (.tmp 15) rfl w5.heap.size rfl (pv (zeros 4) (zeros 4) false) rfl 43 (pv (zeros 4) (zeros 4) false) (Blk.new w5 43 (pv (zeros 4) (zeros 4) false)) (i43 rfl rfl) (lenEq (show (pv (zeros 4) (zeros 4) false).length = 9 from rfl) (show (pv (zeros 4) (zeros 4) false).length = 9 from rfl)) (pv_one _ _ _) ?_; generalize hW : World.setRow _ _ _ = w9; obtain ⟨hgw9, hnw9⟩ := newfacts hW; clear hW; have C12 := Lib.hid (C6.out.gr hgw9); clear C6; have C13 := Lib.hid (C7.out.gr hgw9); clear C7; have hbel14 := hbel8.trans (Below.mono hgw9 hbel8.size); clear hbel8; have D11 := Lib.hid hnw9; have szw9 := hgw9.size; clear hnw9 hgw9 szw9; generalize w5.heap.size = G10 at *) | (refine wpList_load_mid rfl 43 (.tmp 2) rfl w.heap.size 0 rfl (pv lx ly ip) _ (blk_all (C12.out)) Try.underlying43 rfl (i43 L_lx.out L_ly.out) ?_))
  refine (Hc3.out _).mono ?_
  rintro e w15 ⟨rfl, hbw15⟩
  have C16 := Lib.hid (C12.out.gr hbw15)
  clear C12
  have C17 := Lib.hid (C13.out.gr hbw15)
  clear C13
  have C18 := Lib.hid (D11.out.gr hbw15)
  clear D11
  have hbel19 := hbel14.trans (Below.mono hbw15 hbel14.size)
  clear hbel14
  clear hbw15
  go_wp2_with (first | (refine wpList_load_mid rfl 43 (.tmp 3) rfl (w.heap.size + 1) 0 rfl (pv mx my iq) _ (blk_all (C17.out)) Try.underlying43 rfl (i43 L_mx.out L_my.out) ?_))
  refine (Hc4.out _).mono ?_
  rintro e w20 ⟨rfl, hbw20⟩
  have C21 := Lib.hid (C16.out.gr hbw20)
  clear C16
  have C22 := Lib.hid (C17.out.gr hbw20)
  clear C17
  have C23 := Lib.hid (C18.out.gr hbw20)
  clear C18
  have hbel24 := hbel19.trans (Below.mono hbw20 hbel19.size)
  clear hbel19
  clear hbw20
  have qz := QZ.out
  go_wp2_with (first | (refine ldwM 43 (.tmp 6) rfl G10 0 rfl (pv (zeros 4) (zeros 4) false) _ (blk_all (C23.out)) Try.underlying43 rfl (i43 rfl rfl) 1 true rfl 28 rfl rfl ?_))
  go_ret
  exact ⟨rfl, hbel24⟩
theorem k_al_any (x1 y1 x2 y2 : Nat) (i1 i2 : Bool) (h1 : x1 < 2 ^ 256) (h2 : y1 < 2 ^ 256) (h3 : x2 < 2 ^ 256) (h4 : y2 < 2 ^ 256) (g : Nat) (w : World) (hr1 : w.rangeAt g 0 (pv (wds 4 x1) (wds 4 y1) i1)) (hr2 : w.rangeAt g 9 (pv (wds 4 x2) (wds 4 y2) i2)) :
    Calls Try.prog 80 #[.slice (some ⟨g, 0, none⟩) 2 2] w fun e w' => e = .returned (.bool (onB x1 y1 i1 && onB x2 y2 i2)) ∧ Below w.heap.size w w' :=
  allon (wds_len 4 _) (wds_len 4 _) (wds_len 4 _) (wds_len 4 _) (k_on x1 y1 i1 h1 h2) (k_on x2 y2 i2 h3 h4) g w hr1 hr2
theorem k_add_no (x1 y1 x2 y2 : Nat) (i1 i2 : Bool) (h1 : x1 < 2 ^ 256) (h2 : y1 < 2 ^ 256) (h3 : x2 < 2 ^ 256) (h4 : y2 < 2 ^ 256) (h : (onB x1 y1 i1 && onB x2 y2 i2) = false) :
    Ans 38 #[.agg (pv (wds 4 x1) (wds 4 y1) i1).toArray, .agg (pv (wds 4 x2) (wds 4 y2) i2).toArray] (.tuple #[.agg (pv (zeros 4) (zeros 4) false).toArray, .int .i64 62]) := fun w =>
  add_no (wds_len 4 _) (wds_len 4 _) (wds_len 4 _) (wds_len 4 _) (fun g w a b => by rw [← h]; exact k_al_any x1 y1 x2 y2 i1 i2 h1 h2 h3 h4 g w a b) w
theorem adds_any (x1 y1 : Nat) (i1 : Bool) (x2 y2 : Nat) (i2 : Bool) (w : World) (h1 : x1 < 2 ^ 256) (h2 : y1 < 2 ^ 256) (h3 : x2 < 2 ^ 256) (h4 : y2 < 2 ^ 256) :
    Calls Try.prog 7 #[.agg (pv (wds 4 x1) (wds 4 y1) i1).toArray, .agg (pv (wds 4 x2) (wds 4 y2) i2).toArray] w fun e w' => e = .returned (.bool true) ∧ Below w.heap.size w w' := by
  have d1 := d_on x1 y1 i1 h1 h2
  have d2 := d_on x2 y2 i2 h3 h4
  have hno := k_add_no x1 y1 x2 y2 i1 i2 h1 h2 h3 h4
  cases hp : onB x1 y1 i1 with
  | false =>
    rw [hp] at d1 hno
    exact adds_noa (wds_len 4 _) (wds_len 4 _) (wds_len 4 _) (wds_len 4 _) k_awake (hno rfl) d1 d2 w
  | true =>
    rw [hp] at d1 hno
    cases hq : onB x2 y2 i2 with
    | false =>
      rw [hq] at d2 hno
      exact adds_nob (wds_len 4 _) (wds_len 4 _) (wds_len 4 _) (wds_len 4 _) k_awake (hno rfl) d1 d2 w
    | true =>
      rw [hq] at d2
      clear hno
      obtain ⟨P, hP, eP⟩ := onB_pt hp
      obtain ⟨Q, hQ, eQ⟩ := onB_pt hq
      rw [eP] at d1 ⊢
      rw [eQ] at d2 ⊢
      rw [ptV_eq P] at d1 ⊢
      rw [ptV_eq Q] at d2 ⊢
      refine adds_ok (ir := pI (EC.sum P Q)) (pX_len P) (pY_len P) (pX_len Q) (pY_len Q) (pX_len (EC.sum P Q)) (pY_len (EC.sum P Q)) k_awake (fun w => ?_) d1 d2 (fun w => ?_) w
      · rw [← ptV_eq, ← ptV_eq, ← ptV_eq]; exact k_addP hP hQ w
      · rw [← ptV_eq, ← ptV_eq, ← ptV_eq]; exact d_addP hP hQ w
end Go.Proofs.Ytfffmoolkgheaaa
