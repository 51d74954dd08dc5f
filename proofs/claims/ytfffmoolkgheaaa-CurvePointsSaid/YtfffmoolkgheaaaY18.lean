/- Parts of proofs of statements, each text behind those that it stands on. No condition of its own. -/
import Derived.Test.YtfffmoolkgheaaaY16
import Derived.Test.YtfffmoolkgheaaaY17
namespace Go.Proofs.Ytfffmoolkgheaaa
open Go.RowKit
set_option linter.unusedVariables false
set_option linter.unusedSimpArgs false
theorem own_blk0 {w : World} {g base n : Nat} (h : Blk w g 5 (natsV .u8 (zeros n))) (hb : base ≤ g) (hn : n ≤ maxLen) : w.ownsRow base 5 1 (.slice (some ⟨g, 0, none⟩) 0 n) 0 (bytesV []) :=
  ⟨rfl, .inr ⟨g, n, _, rfl, hb, h, Nat.zero_le _, hn, by simp [natsV, zeros], by simp [bytesV]⟩⟩
theorem own_blk1 {w : World} {g base x : Nat} (h : Blk w g 5 [.int .u8 (x : Nat)]) (hb : base ≤ g) : w.ownsRow base 5 1 (.slice (some ⟨g, 0, none⟩) 1 1) 1 (bytesV [x]) :=
  ⟨rfl, .inr ⟨g, 1, _, rfl, hb, h, Nat.le_refl _, by unfold maxLen; omega, rfl, rfl⟩⟩
theorem bin_blk1 {w : World} {g x : Nat} {t : TypeId} (h : Blk w g t [.int .u8 (x : Nat)]) (hx : x < 256) : BIn w (some ⟨g, 0, none⟩) 1 1 [x] := by
  refine ⟨⟨rfl, by unfold maxLen; omega, by simpa using hx, .inr ⟨g, 0, rfl, fun i hi => ?_⟩⟩, Nat.le_refl _, by unfold maxLen; omega, by omega, fun h => by cases h⟩
  obtain rfl : i = 0 := by omega
  exact h.cell 0
set_option maxRecDepth 100000 in
set_option maxHeartbeats 1600000 in
theorem pck_inf (w : World) 
    (c1 : ∀ w, Calls Try.prog 67 #[] w fun e w' => e = .returned (.agg (pv (zeros 4) (zeros 4) true).toArray) ∧ Below w.heap.size w w') :
    Calls Try.prog 27 #[.agg (pv (zeros 4) (zeros 4) true).toArray] w fun e w' => e = .returned (.tuple #[.slice none 0 0, .int .i64 62]) ∧ Below w.heap.size w w' := by
  have Hc1 := Lib.hid c1
  clear c1
  have QE := Lib.hid (fun w => (eql43 (zeros 4) (zeros 4) (zeros 4) (zeros 4) true true rfl rfl rfl rfl w).trans (by rw [decide_eq_true ⟨rfl, rfl, rfl⟩]))
  have B0_ := Lib.hid (Blk.new w  43 (pv (zeros 4) (zeros 4) true))
  have bel_ := ((Below.refl w.heap.size w).alloc (Nat.le_refl _) (.cells (pv (zeros 4) (zeros 4) true).toArray 43))
  go_enter Try.func27, Try.ntmps27
  go_wp2_with fail
  as_aux_lemma =>
  refine wp_region_G (fun w_ => Blk w_ w.heap.size 43 (pv (zeros 4) (zeros 4) true)) 8 (by kernel_rfl) B0_.out.drew ?_
  refine wpAnyG_take (fun _ _ hS_ hb_ => hS_.gr hb_) (i := 0) rfl (by kernel_rfl) (fun _ _ _ h => h) (loadG (by rfl) _ _ rfl _ _ rfl (pv (zeros 4) (zeros 4) true) _ (fun _ hS_ => blk_all (hS_)) Try.underlying43 rfl (i43 rfl rfl)) ?_
  try simp only [Act.put, zq1, zq2, zq3, zq4, zq5, zq6]
  refine wpAnyG_take (fun _ _ hS_ hb_ => hS_.gr hb_) (i := 1) rfl (by kernel_rfl) (fun _ _ _ h => h) (callG (by rfl) rfl Try.func67 (by kernel_rfl) (by kernel_rfl) (#[]) (by simp [Act.eval]) (fun W_ _ => Hc1.out W_)) ?_
  try simp only [Act.put, zq1, zq2, zq3, zq4, zq5, zq6]
  refine wpAnyG_take (fun _ _ hS_ hb_ => hS_.gr hb_) (i := 2) rfl (by kernel_rfl) (fun _ _ _ h => h) (pureG (by rfl) (by intro w; have q := QE.out; go_simp; first | done | with_reducible rfl)) ?_
  try simp only [Act.put, zq1, zq2, zq3, zq4, zq5, zq6]
  refine wpAnyG_take (fun _ _ hS_ hb_ => hS_.gr hb_) (i := 3) rfl (by kernel_rfl) (fun _ _ _ h => h) (pureG (by rfl) (by intro w; go_simp; first | done | with_reducible rfl)) ?_
  try simp only [Act.put, zq1, zq2, zq3, zq4, zq5, zq6]
  refine wpAnyG_take (fun _ _ hS_ hb_ => hS_.gr hb_) (i := 4) rfl (by kernel_rfl) (fun _ _ _ h => h) (skipG (by rfl)) ?_
  try simp only [Act.put, zq1, zq2, zq3, zq4, zq5, zq6]
  refine wpAnyG_take (fun _ _ hS_ hb_ => hS_.gr hb_) (i := 5) rfl (by kernel_rfl) (fun _ _ _ h => h) (skipG (by rfl)) ?_
  try simp only [Act.put, zq1, zq2, zq3, zq4, zq5, zq6]
  refine wpAnyG_take (fun _ _ hS_ hb_ => hS_.gr hb_) (i := 6) rfl (by kernel_rfl) (fun _ _ _ h => h) (skipG (by rfl)) ?_
  try simp only [Act.put, zq1, zq2, zq3, zq4, zq5, zq6]
  refine wpAnyG_take (fun _ _ hS_ hb_ => hS_.gr hb_) (i := 7) rfl (by kernel_rfl) (fun _ _ _ h => h) (pureG (by rfl) (by intro w; go_simp; first | done | with_reducible rfl)) ?_
  try simp only [Act.put, zq1, zq2, zq3, zq4, zq5, zq6]
  refine wpAnyG_done (by kernel_rfl) ?_ _
  intro w1 hgw1
  try simp only [Act.put, zq1, zq2, zq3, zq4, zq5, zq6]
  have E2 := Lib.hid (B0_.out.drew.gr hgw1)
  clear B0_
  have hbel3 := bel_.drew.trans (Below.mono hgw1 bel_.drew.size)
  clear bel_
  clear hgw1
  as_aux_lemma =>
  go_wp2_with fail
  go_ret2
  exact ⟨rfl, hbel3⟩
set_option maxRecDepth 100000 in
set_option maxHeartbeats 1600000 in
theorem pck_off {lx ly : List Nat} {ip : Bool} (w : World) (hlx : lx.length = 4) (hly : ly.length = 4)
    (hne : ¬ (lx = zeros 4 ∧ ly = zeros 4 ∧ ip = true))
    (c1 : ∀ w, Calls Try.prog 67 #[] w fun e w' => e = .returned (.agg (pv (zeros 4) (zeros 4) true).toArray) ∧ Below w.heap.size w w')
    (c2 : ∀ w, Calls Try.prog 29 #[.agg (pv lx ly ip).toArray] w fun e w' => e = .returned (.bool false) ∧ Below w.heap.size w w') :
    Calls Try.prog 27 #[.agg (pv lx ly ip).toArray] w fun e w' => e = .returned (.tuple #[.slice none 0 0, .int .i64 62]) ∧ Below w.heap.size w w' := by
  have L_lx := Lib.hid hlx
  clear hlx
  have L_ly := Lib.hid hly
  clear hly
  have Hc1 := Lib.hid c1
  clear c1
  have Hc2 := Lib.hid c2
  clear c2
  have QE := Lib.hid (fun w => (eql43 lx ly (zeros 4) (zeros 4) ip true L_lx.out L_ly.out rfl rfl w).trans (by rw [decide_eq_false hne]))
  clear hne
  have B0_ := Lib.hid (Blk.new w  43 (pv lx ly ip))
  have bel_ := ((Below.refl w.heap.size w).alloc (Nat.le_refl _) (.cells (pv lx ly ip).toArray 43))
  go_enter Try.func27, Try.ntmps27
  go_wp2_with fail
  as_aux_lemma =>
  refine wp_region_G (fun w_ => Blk w_ w.heap.size 43 (pv lx ly ip)) 8 (by kernel_rfl) B0_.out.drew ?_
  refine wpAnyG_take (fun _ _ hS_ hb_ => hS_.gr hb_) (i := 0) rfl (by kernel_rfl) (fun _ _ _ h => h) (loadG (by rfl) _ _ rfl _ _ rfl (pv lx ly ip) _ (fun _ hS_ => blk_all (hS_)) Try.underlying43 rfl (i43 L_lx.out L_ly.out)) ?_
  try simp only [Act.put, zq1, zq2, zq3, zq4, zq5, zq6]
  refine wpAnyG_take (fun _ _ hS_ hb_ => hS_.gr hb_) (i := 1) rfl (by kernel_rfl) (fun _ _ _ h => h) (callG (by rfl) rfl Try.func67 (by kernel_rfl) (by kernel_rfl) (#[]) (by simp [Act.eval]) (fun W_ _ => Hc1.out W_)) ?_
  try simp only [Act.put, zq1, zq2, zq3, zq4, zq5, zq6]
  refine wpAnyG_take (fun _ _ hS_ hb_ => hS_.gr hb_) (i := 2) rfl (by kernel_rfl) (fun _ _ _ h => h) (pureG (by rfl) (by intro w; have q := QE.out; go_simp; first | done | with_reducible rfl)) ?_
  try simp only [Act.put, zq1, zq2, zq3, zq4, zq5, zq6]
  refine wpAnyG_take (fun _ _ hS_ hb_ => hS_.gr hb_) (i := 3) rfl (by kernel_rfl) (fun _ _ _ h => h) (pureG (by rfl) (by intro w; go_simp; first | done | with_reducible rfl)) ?_
  try simp only [Act.put, zq1, zq2, zq3, zq4, zq5, zq6]
  refine wpAnyG_take (fun _ _ hS_ hb_ => hS_.gr hb_) (i := 4) rfl (by kernel_rfl) (fun _ _ _ h => h) (loadG (by rfl) _ _ rfl _ _ rfl (pv lx ly ip) _ (fun _ hS_ => blk_all (hS_)) Try.underlying43 rfl (i43 L_lx.out L_ly.out)) ?_
  try simp only [Act.put, zq1, zq2, zq3, zq4, zq5, zq6]
  refine wpAnyG_take (fun _ _ hS_ hb_ => hS_.gr hb_) (i := 5) rfl (by kernel_rfl) (fun _ _ _ h => h) (callG (by rfl) rfl Try.func29 (by kernel_rfl) (by kernel_rfl) (#[.agg (pv lx ly ip).toArray]) (by simp [Act.eval]) (fun W_ _ => Hc2.out W_)) ?_
  try simp only [Act.put, zq1, zq2, zq3, zq4, zq5, zq6]
  refine wpAnyG_take (fun _ _ hS_ hb_ => hS_.gr hb_) (i := 6) rfl (by kernel_rfl) (fun _ _ _ h => h) (pureG (by rfl) (by intro w; go_simp; first | done | with_reducible rfl)) ?_
  try simp only [Act.put, zq1, zq2, zq3, zq4, zq5, zq6]
  refine wpAnyG_take (fun _ _ hS_ hb_ => hS_.gr hb_) (i := 7) rfl (by kernel_rfl) (fun _ _ _ h => h) (pureG (by rfl) (by intro w; go_simp; first | done | with_reducible rfl)) ?_
  try simp only [Act.put, zq1, zq2, zq3, zq4, zq5, zq6]
  refine wpAnyG_done (by kernel_rfl) ?_ _
  intro w1 hgw1
  try simp only [Act.put, zq1, zq2, zq3, zq4, zq5, zq6]
  have E2 := Lib.hid (B0_.out.drew.gr hgw1)
  clear B0_
  have hbel3 := bel_.drew.trans (Below.mono hgw1 bel_.drew.size)
  clear bel_
  clear hgw1
  as_aux_lemma =>
  go_wp2_with fail
  go_ret2
  exact ⟨rfl, hbel3⟩
set_option maxRecDepth 100000 in
set_option maxHeartbeats 1600000 in
theorem pck_ok {lx ly B1 : List Nat} {d : Nat} (w : World) (hlx : lx.length = 4) (hly : ly.length = 4) (hB1 : B1.length = 32)
    (hd : d < 2)
    (hb1 : ∀ x ∈ B1, x < 256)
    (c1 : ∀ w, Calls Try.prog 67 #[] w fun e w' => e = .returned (.agg (pv (zeros 4) (zeros 4) true).toArray) ∧ Below w.heap.size w w')
    (c2 : ∀ w, Calls Try.prog 29 #[.agg (pv lx ly false).toArray] w fun e w' => e = .returned (.bool true) ∧ Below w.heap.size w w')
    (c3 : ∀ w, Calls Try.prog 68 #[.agg (natsV .u64 lx).toArray] w fun e w' => e = .returned (.agg (natsV .u8 B1).toArray) ∧ Below w.heap.size w w')
    (c4 : ∀ w, Calls Try.prog 69 #[.agg (natsV .u64 ly).toArray, .int .i64 0] w fun e w' => e = .returned (.int .i64 (d : Nat)) ∧ Below w.heap.size w w') :
    Calls Try.prog 27 #[.agg (pv lx ly false).toArray] w (ListOwn 33 ([2 + d] ++ B1) w) := by
  have L_lx := Lib.hid hlx
  clear hlx
  have L_ly := Lib.hid hly
  clear hly
  have L_B1 := Lib.hid hB1
  clear hB1
  have Hc1 := Lib.hid c1
  clear c1
  have Hc2 := Lib.hid c2
  clear c2
  have Hc3 := Lib.hid c3
  clear c3
  have Hc4 := Lib.hid c4
  clear c4
  have HB1 := Lib.hid hb1
  clear hb1
  have QE := Lib.hid (fun w => (eql43 lx ly (zeros 4) (zeros 4) false true L_lx.out L_ly.out rfl rfl w).trans (by rw [decide_eq_false (fun h => by cases h.2.2)]))
  have B0_ := Lib.hid (Blk.new w  43 (pv lx ly false))
  have bel_ := ((Below.refl w.heap.size w).alloc (Nat.le_refl _) (.cells (pv lx ly false).toArray 43))
  go_enter Try.func27, Try.ntmps27
  go_wp2_with fail
  as_aux_lemma =>
  refine wp_region_G (fun w_ => Blk w_ w.heap.size 43 (pv lx ly false)) 8 (by kernel_rfl) B0_.out.drew ?_
  refine wpAnyG_take (fun _ _ hS_ hb_ => hS_.gr hb_) (i := 0) rfl (by kernel_rfl) (fun _ _ _ h => h) (loadG (by rfl) _ _ rfl _ _ rfl (pv lx ly false) _ (fun _ hS_ => blk_all (hS_)) Try.underlying43 rfl (i43 L_lx.out L_ly.out)) ?_
  try simp only [Act.put, zq1, zq2, zq3, zq4, zq5, zq6]
  refine wpAnyG_take (fun _ _ hS_ hb_ => hS_.gr hb_) (i := 1) rfl (by kernel_rfl) (fun _ _ _ h => h) (callG (by rfl) rfl Try.func67 (by kernel_rfl) (by kernel_rfl) (#[]) (by simp [Act.eval]) (fun W_ _ => Hc1.out W_)) ?_
  try simp only [Act.put, zq1, zq2, zq3, zq4, zq5, zq6]
  refine wpAnyG_take (fun _ _ hS_ hb_ => hS_.gr hb_) (i := 2) rfl (by kernel_rfl) (fun _ _ _ h => h) (pureG (by rfl) (by intro w; have q := QE.out; go_simp; first | done | with_reducible rfl)) ?_
  try simp only [Act.put, zq1, zq2, zq3, zq4, zq5, zq6]
  refine wpAnyG_take (fun _ _ hS_ hb_ => hS_.gr hb_) (i := 3) rfl (by kernel_rfl) (fun _ _ _ h => h) (pureG (by rfl) (by intro w; go_simp; first | done | with_reducible rfl)) ?_
  try simp only [Act.put, zq1, zq2, zq3, zq4, zq5, zq6]
  refine wpAnyG_take (fun _ _ hS_ hb_ => hS_.gr hb_) (i := 4) rfl (by kernel_rfl) (fun _ _ _ h => h) (loadG (by rfl) _ _ rfl _ _ rfl (pv lx ly false) _ (fun _ hS_ => blk_all (hS_)) Try.underlying43 rfl (i43 L_lx.out L_ly.out)) ?_
  try simp only [Act.put, zq1, zq2, zq3, zq4, zq5, zq6]
  refine wpAnyG_take (fun _ _ hS_ hb_ => hS_.gr hb_) (i := 5) rfl (by kernel_rfl) (fun _ _ _ h => h) (callG (by rfl) rfl Try.func29 (by kernel_rfl) (by kernel_rfl) (#[.agg (pv lx ly false).toArray]) (by simp [Act.eval]) (fun W_ _ => Hc2.out W_)) ?_
  try simp only [Act.put, zq1, zq2, zq3, zq4, zq5, zq6]
  refine wpAnyG_take (fun _ _ hS_ hb_ => hS_.gr hb_) (i := 6) rfl (by kernel_rfl) (fun _ _ _ h => h) (pureG (by rfl) (by intro w; go_simp; first | done | with_reducible rfl)) ?_
  try simp only [Act.put, zq1, zq2, zq3, zq4, zq5, zq6]
  refine wpAnyG_take (fun _ _ hS_ hb_ => hS_.gr hb_) (i := 7) rfl (by kernel_rfl) (fun _ _ _ h => h) (pureG (by rfl) (by intro w; go_simp; first | done | with_reducible rfl)) ?_
  try simp only [Act.put, zq1, zq2, zq3, zq4, zq5, zq6]
  refine wpAnyG_done (by kernel_rfl) ?_ _
  intro w1 hgw1
  try simp only [Act.put, zq1, zq2, zq3, zq4, zq5, zq6]
  have E2 := Lib.hid (B0_.out.drew.gr hgw1)
  clear B0_
  have hbel3 := bel_.drew.trans (Below.mono hgw1 bel_.drew.size)
  clear bel_
  clear hgw1
  as_aux_lemma =>
  go_wp2_with (first | (refine wpList_load_mid rfl 24 (.tmp 14) rfl w.heap.size 0 rfl (natsV .u64 lx) _ (pv_x (E2.out)) Try.underlying24 rfl (i24 L_lx.out) ?_))
  refine (Hc3.out _).mono ?_
  rintro e w4 ⟨rfl, hbw4⟩
  have C5 := Lib.hid (E2.out.gr hbw4)
  clear E2
  have hbel6 := hbel3.trans (Below.mono hbw4 hbel3.size)
  clear hbel3
  clear hbw4
  go_wp2_with (first | (refine stB rfl 90 (.tmp 4) (.tmp 16) rfl w4.heap.size rfl (natsV .u8 B1) rfl 90 (natsV .u8 (zeros 32)) (Blk.new w4 90 (natsV .u8 (zeros 32))) (i90 L_B1.out) (lenEq (show (natsV .u8 (zeros 32)).length = 32 from rfl) (by rw [natsV_length, L_B1.out])) (natsV_one _ _) ?_; generalize hW : World.setRow _ _ _ = w7; obtain ⟨hgw7, hnw7⟩ := newfacts hW; clear hW; have C10 := Lib.hid (C5.out.gr hgw7); clear C5; have hbel11 := hbel6.trans (Below.mono hgw7 hbel6.size); clear hbel6; have D9 := Lib.hid hnw7; have szw7 := hgw7.size; clear hnw7 hgw7 szw7; generalize w4.heap.size = G8 at *) | (refine wpList_load_mid rfl 24 (.tmp 17) rfl w.heap.size 4 rfl (natsV .u64 ly) _ (pv_y (C10.out) L_lx.out) Try.underlying24 rfl (i24 L_ly.out) ?_))
  refine (Hc4.out _).mono ?_
  rintro e w12 ⟨rfl, hbw12⟩
  have C13 := Lib.hid (C10.out.gr hbw12)
  clear C10
  have C14 := Lib.hid (D9.out.gr hbw12)
  clear D9
  have hbel15 := hbel11.trans (Below.mono hbw12 hbel11.size)
  clear hbel11
  clear hbw12
  obtain ⟨x, hx⟩ : ∃ x, x = 2 + d := ⟨_, rfl⟩
  have r1 : IntKind.u8.wrap (2 + (d : Int)) = (x : Int) := by rw [IntKind.wrap_u8]; omega
  have hx2 : x < 256 := by omega
  have hdi : (d : Int) < 2 := by omega
  have hd0 : 0 ≤ (d : Int) := by omega
  have HXX := Lib.hid hx
  clear hx
  go_wp2_with fail
  clear r1 hdi hd0
  refine wp_region_G (fun w_ => Below w.heap.size w w_) 8 (by kernel_rfl) hbel15.drew ?_
  refine wpAnyG_take (fun _ _ hS_ hb_ => gr_bel hS_ hb_) (i := 1) rfl (by kernel_rfl) (fun _ _ _ h => h) (pureG (by rfl) (by intro w; go_simp; first | done | with_reducible rfl)) ?_
  try simp only [Act.put, zq1, zq2, zq3, zq4, zq5, zq6]
  refine wpAnyG_take (fun _ _ hS_ hb_ => gr_bel hS_ hb_) (i := 4) rfl (by kernel_rfl) (fun _ _ _ h => h) (pureG (by rfl) (by intro w; go_simp; first | done | with_reducible rfl)) ?_
  try simp only [Act.put, zq1, zq2, zq3, zq4, zq5, zq6]
  refine wpAnyG_make2 (i := 0) (j := 2) (val := fun g => .slice (some ⟨g, 0, none⟩) 0 33) (val2 := fun g => .slice (some ⟨g, 0, none⟩) 1 1) (t := 5) (t2 := 5) (zs := natsV .u8 (zeros 33)) (zs2 := [.int .u8 (x : Nat)]) (fun _ _ hS_ hb_ => gr_bel hS_ hb_) (by kernel_rfl) (by kernel_rfl) (by kernel_rfl) (by decide) rfl rfl ⟨by rfl, fun w => by have q := hmk33 w; go_simp; first | done | with_reducible rfl⟩ ⟨by rfl, fun w => by go_simp; first | done | with_reducible rfl⟩ (fun _ => ⟨by rfl, fun w => by have q := hmk33 w; go_simp; first | done | with_reducible rfl⟩) (fun _ => ⟨by rfl, fun w => by go_simp; first | done | with_reducible rfl⟩) (fun _ _ => rfl) ?_
  intro wm g1 g2 hgm hs1 hs2 hne k1 k2
  try simp only [Act.put, zq1, zq2, zq3, zq4, zq5, zq6]
  have HO := own_blk0 k1 (show w12.heap.size ≤ g1 from hs1) (by unfold maxLen; omega)
  have HN := bin_blk1 k2 hx2
  have hA := C14.out.drew.gr hgm
  have hlt := C14.out.lt
  have hsz : w12.heap.size ≤ wm.heap.size := hgm.size
  clear k1 k2 hs1 hs2 hne
  refine wpAnyG_app (i := 3) (by kernel_rfl) rfl rfl (.tmp 22) (.tmp 24) rfl w12.heap.size (.slice (some ⟨g1, 0, none⟩) 0 33) 0 [] rfl HO g2 0 1 1 [x] rfl HN (by omega) hsz (fun _ _ h hb => h.trans (Below.mono hb hbel15.size)) ?_
  intro v1 W1 o1 b1
  try simp only [Act.put, zq1, zq2, zq3, zq4, zq5, zq6]
  have HX := bin_blk (hA.below b1 hlt) L_B1.out HB1.out
  refine wpAnyG_app (i := 5) (by kernel_rfl) rfl rfl (.tmp 25) (.tmp 26) rfl w12.heap.size v1 1 [x] rfl o1 G8 0 32 32 B1 rfl HX (by omega) (Nat.le_trans hsz b1.size) (fun _ _ h hb => h.trans (Below.mono hb hbel15.size)) ?_
  intro v2 W2 o2 b2
  try simp only [Act.put, zq1, zq2, zq3, zq4, zq5, zq6]
  refine wpAnyG_take (fun _ _ hS_ hb_ => gr_bel hS_ hb_) (i := 6) rfl (by kernel_rfl) (fun _ _ _ h => h) (pureG (by rfl) (by intro w; go_simp; first | done | with_reducible rfl)) ?_
  try simp only [Act.put, zq1, zq2, zq3, zq4, zq5, zq6]
  refine wpAnyG_take (fun _ _ hS_ hb_ => gr_bel hS_ hb_) (i := 7) rfl (by kernel_rfl) (fun _ _ _ h => h) (pureG (by rfl) (by intro w; go_simp; first | done | with_reducible rfl)) ?_
  try simp only [Act.put, zq1, zq2, zq3, zq4, zq5, zq6]
  refine wpAnyG_done (by kernel_rfl) ?_ _
  intro wF hF
  try simp only [Act.put, zq1, zq2, zq3, zq4, zq5, zq6]
  have o3 := own_below o2 hF
  rw [HXX.out] at o3
  obtain ⟨G, cap, rfl, _⟩ := own_form o3 (by decide)
  go_wp2_with fail
  go_ret2
  exact ⟨G, cap, rfl, own_base o3 hbel15.size, (((hbel15.drew.trans (Below.mono hgm hbel15.drew.size)).trans (Below.mono b1 hbel15.size)).trans (Below.mono b2 hbel15.size)).trans (Below.mono hF (Nat.le_trans hbel15.size (Nat.le_trans hsz (Nat.le_trans b1.size b2.size))))⟩
set_option maxRecDepth 100000 in
set_option maxHeartbeats 1600000 in
theorem dpck_ok {lx ly B1 : List Nat} {y0 d : Nat} (w : World) (hlx : lx.length = 4) (hly : ly.length = 4) (hB1 : B1.length = 32)
    (hy : ly[0]? = some y0)
    (hd : y0 % 2 = d)
    (hb1 : ∀ x ∈ B1, x < 256)
    (c1 : ∀ w, Calls Try.prog 75 #[.agg (natsV .u64 lx).toArray] w fun e w' => e = .returned (.agg (natsV .u8 B1).toArray) ∧ Below w.heap.size w w') :
    Calls Try.prog 35 #[.agg (pv lx ly false).toArray] w (RetB 33 ([2 + d] ++ B1) w) := by
  have L_lx := Lib.hid hlx
  clear hlx
  have L_ly := Lib.hid hly
  clear hly
  have L_B1 := Lib.hid hB1
  clear hB1
  have Hc1 := Lib.hid c1
  clear c1
  have HB1 := Lib.hid hb1
  clear hb1
  have B0_ := Lib.hid (Blk.new w  43 (pv lx ly false))
  have bel_ := ((Below.refl w.heap.size w).alloc (Nat.le_refl _) (.cells (pv lx ly false).toArray 43))
  go_enter Try.func35, Try.ntmps35
  go_wp2_with (first | (refine wpList_load_mid rfl 24 (.tmp 4) rfl w.heap.size 0 rfl (natsV .u64 lx) _ (pv_x (B0_.out)) Try.underlying24 rfl (i24 L_lx.out) ?_))
  refine (Hc1.out _).mono ?_
  rintro e w1 ⟨rfl, hbw1⟩
  have C2 := Lib.hid (B0_.out.gr hbw1)
  clear B0_
  have hbel3 := bel_.trans (Below.mono hbw1 bel_.size)
  clear bel_
  clear hbw1
  go_wp2_with (first | (refine stB rfl 90 (.tmp 3) (.tmp 6) rfl w1.heap.size rfl (natsV .u8 B1) rfl 90 (natsV .u8 (zeros 32)) (Blk.new w1 90 (natsV .u8 (zeros 32))) (i90 L_B1.out) (lenEq (show (natsV .u8 (zeros 32)).length = 32 from rfl) (by rw [natsV_length, L_B1.out])) (natsV_one _ _) ?_; generalize hW : World.setRow _ _ _ = w4; obtain ⟨hgw4, hnw4⟩ := newfacts hW; clear hW; have C7 := Lib.hid (C2.out.gr hgw4); clear C2; have hbel8 := hbel3.trans (Below.mono hgw4 hbel3.size); clear hbel3; have D6 := Lib.hid hnw4; have szw4 := hgw4.size; clear hnw4 hgw4 szw4; generalize w1.heap.size = G5 at *))
  obtain ⟨x, hx⟩ : ∃ x, x = 2 + d := ⟨_, rfl⟩
  have hx2 : x < 256 := by omega
  have HXX := Lib.hid hx
  have hr1 : (y0 : Int).tmod 2 = (d : Int) := by rw [Int.tmod_eq_emod_of_nonneg (by omega)]; omega
  have hr2 : (y0 : Int) % 2 = (d : Int) := by omega
  have hr3 : IntKind.u8.wrap (d : Int) = (d : Int) := by rw [IntKind.wrap_u8]; omega
  have hr4 : IntKind.u8.wrap (2 + (d : Int)) = (x : Int) := by rw [IntKind.wrap_u8]; omega
  have hr5 : IntKind.u64.wrap (d : Int) = (d : Int) := by rw [u64_cut, Nat.mod_eq_of_lt (by omega)]
  clear hx hd
  have hlt := D6.out.lt
  have hge : ∀ {w1 W2 : World}, Blk w1 w.heap.size 43 (pv lx ly false) → Below w4.heap.size w1 W2 → Blk W2 w.heap.size 43 (pv lx ly false) := fun h hb => h.below hb C7.out.lt
  refine wp_region_G (fun w_ => Blk w_ w.heap.size 43 (pv lx ly false) ∧ Below w.heap.size w w_) 10 (by kernel_rfl) ⟨C7.out.drew, hbel8.drew⟩ ?_
  refine wpAnyG_take (fun _ _ hS_ hb_ => ⟨hS_.1.gr hb_, gr_bel hS_.2 hb_⟩) (i := 0) rfl (by kernel_rfl) (fun _ _ _ h => h) (pureG (by rfl) (by intro w; go_simp; first | done | with_reducible rfl)) ?_
  try simp only [Act.put, zq1, zq2, zq3, zq4, zq5, zq6]
  refine wpAnyG_take (fun _ _ hS_ hb_ => ⟨hS_.1.gr hb_, gr_bel hS_.2 hb_⟩) (i := 1) rfl (by kernel_rfl) (fun _ _ _ h => h) (pureG (by rfl) (by intro w; go_simp; first | done | with_reducible rfl)) ?_
  try simp only [Act.put, zq1, zq2, zq3, zq4, zq5, zq6]
  refine wpAnyG_take (fun _ _ hS_ hb_ => ⟨hS_.1.gr hb_, gr_bel hS_.2 hb_⟩) (i := 2) rfl (by kernel_rfl) (fun _ _ _ h => h) (v := .int .u64 (y0 : Nat)) (worldG (by rfl) (by intro w_ hS_; have c := pv_y0 hS_.1 L_lx.out hy; go_simp; first | done | with_reducible rfl)) ?_
  try simp only [Act.put, zq1, zq2, zq3, zq4, zq5, zq6]
  refine wpAnyG_take (fun _ _ hS_ hb_ => ⟨hS_.1.gr hb_, gr_bel hS_.2 hb_⟩) (i := 3) rfl (by kernel_rfl) (fun _ _ _ h => h) (pureG (by rfl) (by intro w; have q1 := hr1; have q2 := hr2; have q3 := hr3; have q4 := hr4; have q5 := hr5; go_simp; first | done | with_reducible rfl)) ?_
  try simp only [Act.put, zq1, zq2, zq3, zq4, zq5, zq6]
  refine wpAnyG_take (fun _ _ hS_ hb_ => ⟨hS_.1.gr hb_, gr_bel hS_.2 hb_⟩) (i := 4) rfl (by kernel_rfl) (fun _ _ _ h => h) (pureG (by rfl) (by intro w; have q1 := hr1; have q2 := hr2; have q3 := hr3; have q4 := hr4; have q5 := hr5; go_simp; first | done | with_reducible rfl)) ?_
  try simp only [Act.put, zq1, zq2, zq3, zq4, zq5, zq6]
  refine wpAnyG_take (fun _ _ hS_ hb_ => ⟨hS_.1.gr hb_, gr_bel hS_.2 hb_⟩) (i := 5) rfl (by kernel_rfl) (fun _ _ _ h => h) (pureG (by rfl) (by intro w; have q1 := hr1; have q2 := hr2; have q3 := hr3; have q4 := hr4; have q5 := hr5; go_simp; first | done | with_reducible rfl)) ?_
  try simp only [Act.put, zq1, zq2, zq3, zq4, zq5, zq6]
  refine wpAnyG_take (fun _ _ hS_ hb_ => ⟨hS_.1.gr hb_, gr_bel hS_.2 hb_⟩) (i := 7) rfl (by kernel_rfl) (fun _ _ _ h => h) (pureG (by rfl) (by intro w; go_simp; first | done | with_reducible rfl)) ?_
  try simp only [Act.put, zq1, zq2, zq3, zq4, zq5, zq6]
  refine wpAnyG_make (i := 6) (val := fun g => .slice (some ⟨g, 0, none⟩) 1 1) (t := 5) (zs := [.int .u8 (x : Nat)]) (fun _ _ hS_ hb_ => ⟨hS_.1.gr hb_, gr_bel hS_.2 hb_⟩) (by kernel_rfl) rfl ⟨by rfl, fun w => by go_simp; first | done | with_reducible rfl⟩ ?_
  intro wm g1 hgm hs1 k1
  try simp only [Act.put, zq1, zq2, zq3, zq4, zq5, zq6]
  have HO := own_blk1 k1 (show w4.heap.size ≤ g1 from hs1)
  have hA := D6.out.drew.gr hgm
  have hsz : w4.heap.size ≤ wm.heap.size := hgm.size
  clear k1 hs1
  have HX := bin_blk hA L_B1.out HB1.out
  refine wpAnyG_app (i := 8) (by kernel_rfl) rfl rfl (.tmp 13) (.tmp 14) rfl w4.heap.size (.slice (some ⟨g1, 0, none⟩) 1 1) 1 [x] rfl HO G5 0 32 32 B1 rfl HX (by omega) hsz (fun _ _ h hb => ⟨hge h.1 hb, h.2.trans (Below.mono hb hbel8.size)⟩) ?_
  intro v2 W2 o2 b2
  try simp only [Act.put, zq1, zq2, zq3, zq4, zq5, zq6]
  refine wpAnyG_take (fun _ _ hS_ hb_ => ⟨hS_.1.gr hb_, gr_bel hS_.2 hb_⟩) (i := 9) rfl (by kernel_rfl) (fun _ _ _ h => h) (pureG (by rfl) (by intro w; go_simp; first | done | with_reducible rfl)) ?_
  try simp only [Act.put, zq1, zq2, zq3, zq4, zq5, zq6]
  refine wpAnyG_done (by kernel_rfl) ?_ _
  intro wF hF
  try simp only [Act.put, zq1, zq2, zq3, zq4, zq5, zq6]
  have o3 := own_below o2 hF
  rw [HXX.out] at o3
  obtain ⟨G, cap, rfl, _⟩ := own_form o3 (by decide)
  go_wp2_with fail
  go_ret
  exact ⟨G, cap, rfl, own_base o3 hbel8.size, ((hbel8.drew.trans (Below.mono hgm hbel8.drew.size)).trans (Below.mono b2 hbel8.size)).trans (Below.mono hF (Nat.le_trans hbel8.size (Nat.le_trans hsz b2.size)))⟩
end Go.Proofs.Ytfffmoolkgheaaa
