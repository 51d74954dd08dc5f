/- The document's permutation answers the plain one. Condition: 25 words of 64 bits. -/
import Derived.Test.YtidnlaibfkjgpaaDoorKRefC
namespace Go.Proofs.YtidnlaibfkjgpaaDoor
open Go.RowKit
set_option linter.unusedVariables false
/-- a column's sum up to row y -/
def colP (s : List Nat) (x : Nat) : Nat → Nat
  | 0 => 0
  | y + 1 => xo (colP s x y) (s.getD (x + 5 * y) 0)
theorem xo_zero {a : Nat} (h : a < 2 ^ 64) : xo 0 a = a := by
  refine bit_eq (xo_lt _ _) h fun i _ => ?_
  rw [bit_xo]; simp [bit]
theorem colP_five (s : List Nat) (hs : Good s) (x : Nat) : colP s x 5 = colS s x := by
  show xo (xo (xo (xo (xo 0 (s.getD (x + 5 * 0) 0)) (s.getD (x + 5 * 1) 0)) (s.getD (x + 5 * 2) 0)) (s.getD (x + 5 * 3) 0)) (s.getD (x + 5 * 4) 0) = _
  rw [xo_zero (hs.at _)]; rfl
theorem xo_assoc (a b c : Nat) : xo (xo a b) c = xo a (xo b c) := by
  refine bit_eq (xo_lt _ _) (xo_lt _ _) fun i _ => ?_
  simp only [bit_xo, Bool.xor_assoc]
theorem by_facts : ∀ x, x < 5 → ∀ y, y < 5 → y + 5 * ((2 * x + 3 * y) % 5) < 25 ∧ srcT.getD (y + 5 * ((2 * x + 3 * y) % 5)) 0 = x + 5 * y ∧ offT.getD (y + 5 * ((2 * x + 3 * y) % 5)) 0 = offS.getD (x + 5 * y) 0 ∧ offS.getD (x + 5 * y) 0 < 64 := by decide +kernel
theorem by_iff (x : Nat) (hx : x < 5) (y : Nat) (hy : y < 5) (i : Nat) (hi : i < 25) : ((srcT.getD i 0 % 5 < x ∨ (srcT.getD i 0 % 5 = x ∧ srcT.getD i 0 / 5 < y + 1)) ↔ (srcT.getD i 0 % 5 < x ∨ (srcT.getD i 0 % 5 = x ∧ srcT.getD i 0 / 5 < y)) ∨ i = y + 5 * ((2 * x + 3 * y) % 5)) := by
  have h : ((List.range 5).all fun x => (List.range 5).all fun y => (List.range 25).all fun i => decide ((srcT.getD i 0 % 5 < x ∨ (srcT.getD i 0 % 5 = x ∧ srcT.getD i 0 / 5 < y + 1)) ↔ (srcT.getD i 0 % 5 < x ∨ (srcT.getD i 0 % 5 = x ∧ srcT.getD i 0 / 5 < y)) ∨ i = y + 5 * ((2 * x + 3 * y) % 5))) = true := by decide +kernel
  simp only [List.all_eq_true, List.mem_range, decide_eq_true_eq] at h
  exact h x hx y hy i hi
theorem by_not : ∀ x, x < 5 → ∀ y, y < 5 → ¬ (srcT.getD (y + 5 * ((2 * x + 3 * y) % 5)) 0 % 5 < x ∨ (srcT.getD (y + 5 * ((2 * x + 3 * y) % 5)) 0 % 5 = x ∧ srcT.getD (y + 5 * ((2 * x + 3 * y) % 5)) 0 / 5 < y)) := by decide +kernel
theorem src_lt : ∀ i, i < 25 → srcT.getD i 0 < 25 := by decide
/-- the permutation's own blocks: the state, the result, the two tables -/
def Bun (h GO GC : Nat) (c : List Nat) (w wr : World) : Prop := Blk wr h 23 (natsV .u64 c) ∧ Blk wr (h + 1) 23 (natsV .u64 (zeros 25)) ∧ Blk wr GO 62 (natsV .i64 offS) ∧ Blk wr GC 61 (natsV .u64 rcT) ∧ Below h w wr
theorem Bun.other {h GO GC g i : Nat} {c : List Nat} {w wr : World} (H : Bun h GO GC c w wr) (v : Value) (h1 : h + 1 < g) (h2 : GO < g) (h3 : GC < g) : Bun h GO GC c w (wr.setCell ⟨g, i, none⟩ v) :=
  ⟨H.1.other _ v (by simp; omega), H.2.1.other _ v (by simp; omega), H.2.2.1.other _ v (by simp; omega), H.2.2.2.1.other _ v (by simp; omega), H.2.2.2.2.setCell (by simp; omega) v⟩
theorem Bun.alloc {h GO GC : Nat} {c : List Nat} {w wr : World} (H : Bun h GO GC c w wr) (o : Obj) : Bun h GO GC c w (wr.alloc o) :=
  ⟨H.1.alloc o, H.2.1.alloc o, H.2.2.1.alloc o, H.2.2.2.1.alloc o, H.2.2.2.2.alloc (by have := H.1.lt; omega) o⟩
theorem Bun.drew {h GO GC : Nat} {c : List Nat} {w wr : World} (H : Bun h GO GC c w wr) : Bun h GO GC c w wr.drew :=
  ⟨H.1, H.2.1, H.2.2.1, H.2.2.2.1, H.2.2.2.2.drew⟩
theorem Bun.set {h GO GC i x : Nat} {c d : List Nat} {w wr : World} (H : Bun h GO GC c w wr) (hd : c.set i x = d) (h2 : h + 1 < GO) (h3 : h + 1 < GC) : Bun h GO GC d w (wr.setCell ⟨h, i, none⟩ (.int .u64 (x : Nat))) := by
  subst hd
  exact ⟨H.1.natSet i x, H.2.1.other _ _ (by simp), H.2.2.1.other _ _ (by simp; omega), H.2.2.2.1.other _ _ (by simp; omega), H.2.2.2.2.setCell (Nat.le_refl _) _⟩
set_option maxRecDepth 100000 in
set_option maxHeartbeats 8000000 in
theorem refPermute_any (s : List Nat) (w : World) (hs : Good s) : Calls Tryd.prog 10 #[.agg (natsV .u64 s).toArray] w (WordsIs (perm s) w) := by
  have HS := Lib.hid hs
  have B1 := Lib.hid ((((Blk.new w 23 (natsV .u64 s)).alloc (.cells (natsV .u64 (zeros 25)).toArray 23))))
  have B2 := Lib.hid ((Blk.new2 w (.cells (natsV .u64 s).toArray 23) 23 (natsV .u64 (zeros 25))))
  have BEL := Lib.hid ((((Below.refl w.heap.size w).alloc (Nat.le_refl _) (.cells (natsV .u64 s).toArray 23)).alloc (by simp) (.cells (natsV .u64 (zeros 25)).toArray 23)))
  have HOF := Lib.hid (offsets_any ((w.alloc (.cells (natsV .u64 s).toArray 23)).alloc (.cells (natsV .u64 (zeros 25)).toArray 23)))
  have HCO := Lib.hid constants_any
  have LO := Lib.hid (show offS.length = 25 from rfl)
  have LC := Lib.hid (show rcT.length = 24 from rfl)
  clear hs
  go_enter Tryd.func10, Tryd.ntmps10
  go_wp2_with fail
  refine HOF.out.mono ?_
  rintro e w1 ⟨rfl, hb1⟩
  have C1 := Lib.hid (B1.out.below' hb1)
  have C2 := Lib.hid (B2.out.below' hb1)
  have hbel1 := BEL.out.trans (hb1.mono BEL.out.size)
  have hz1 : w.heap.size + 1 < w1.heap.size := C2.out.lt
  clear B1 B2 BEL HOF hb1
  have B3 := Lib.hid (Blk.new w1 62 (natsV .i64 (zeros 25)))
  go_wp2_with (refine wpList_store_row rfl 62 (.tmp 3) (.tmp 17) rfl w1.heap.size (natsV .i64 offS).toArray rfl rfl 62 (natsV .i64 (zeros 25)).toArray B3.out (by rw [info62, size_nats, LO.out]) (by rw [size_nats, size_nats, LO.out]; rfl) (all_nats _ _) ?_)
  rw [World.setRow_alloc_new]
  have D1 := Lib.hid (C1.out.alloc (.cells (natsV .i64 offS).toArray 62))
  have D2 := Lib.hid (C2.out.alloc (.cells (natsV .i64 offS).toArray 62))
  have D3 := Lib.hid (Blk.new w1 62 (natsV .i64 offS))
  have hbel2 := hbel1.alloc (show w.heap.size ≤ w1.heap.size from hbel1.size) (.cells (natsV .i64 offS).toArray 62)
  clear C1 C2 B3 hbel1
  generalize w1.heap.size = GO at *
  generalize w1.alloc (.cells (natsV .i64 offS).toArray 62) = W1 at *
  refine (HCO.out _).mono ?_
  rintro e w2 ⟨rfl, hb2⟩
  have E1 := Lib.hid (D1.out.below' hb2)
  have E2 := Lib.hid (D2.out.below' hb2)
  have E3 := Lib.hid (D3.out.below' hb2)
  have hbel3 := hbel2.trans (hb2.mono hbel2.size)
  have hz2 : GO < w2.heap.size := E3.out.lt
  clear D1 D2 D3 hbel2 hb2 HCO
  have B4 := Lib.hid (Blk.new w2 61 (natsV .u64 (zeros 24)))
  go_wp2_with (refine wpList_store_row rfl 61 (.tmp 4) (.tmp 18) rfl w2.heap.size (natsV .u64 rcT).toArray rfl rfl 61 (natsV .u64 (zeros 24)).toArray B4.out (by rw [info61, size_nats, LC.out]) (by rw [size_nats, size_nats, LC.out]; rfl) (all_nats _ _) ?_)
  rw [World.setRow_alloc_new]
  have BUN := Lib.hid (show Bun w.heap.size GO w2.heap.size s w (w2.alloc (.cells (natsV .u64 rcT).toArray 61)) from
    ⟨E1.out.alloc _, E2.out.alloc _, E3.out.alloc _, Blk.new w2 61 (natsV .u64 rcT), hbel3.alloc (show w.heap.size ≤ w2.heap.size from hbel3.size) _⟩)
  clear E1 E2 E3 B4 hbel3
  generalize w2.heap.size = GC at *
  generalize w2.alloc (.cells (natsV .u64 rcT).toArray 61) = W2 at *
  go_loopw [5] (fun i wr => ∃ t : Nat, t ≤ 24 ∧ i = .int .i64 t ∧ Bun w.heap.size GO GC (rounds s t) w wr) (fun i _ => 24 - (intOf i).toNat)
  case atStart => exact ⟨0, by omega, rfl, BUN.out⟩
  case round =>
    clear BUN
    obtain ⟨t, ht, rfl, bun⟩ := hrel
    by_cases h24 : t < 24
    · as_aux_lemma =>
      have hti : (t : Int) < 24 := by omega
      have hg := rounds_good HS.out t
      have HR := Lib.hid (show rounds s (t + 1) = iota t (chi (move (theta (rounds s t)))) from rfl)
      generalize rounds s t = c at *
      have HG := Lib.hid hg
      have HL := Lib.hid hg.1
      clear hg
      have BUN := Lib.hid (bun.alloc (.cells (natsV .u64 (zeros 25)).toArray 23))
      have KA := Lib.hid (Blk.new wr 23 (natsV .u64 (zeros 25)))
      have hGA : GC < wr.heap.size := bun.2.2.2.1.lt
      clear bun
      obtain ⟨wo, hwo⟩ : ∃ wo : World, wo = wr := ⟨_, rfl⟩
      subst hwo
      go_wp2_with fail
      go_loopw [7] (fun i wr => ∃ x : Nat, x ≤ 5 ∧ i = .int .i64 x ∧ Bun w.heap.size GO GC c w wr ∧ Blk wr wo.heap.size 23 (natsV .u64 (tell (fun i => if i % 5 < x then thetaAt c i else (zeros 25).getD i 0) 25))) (fun i _ => 5 - (intOf i).toNat)
      case atStart => exact ⟨0, by omega, rfl, BUN.out, by rw [upd_none _ _ (zeros 25) 25 rfl (by omega)]; exact KA.out⟩
      case round =>
        clear BUN KA
        obtain ⟨x, hx5, rfl, bun, ka⟩ := hrel
        have BUN := Lib.hid bun
        have KA := Lib.hid ka
        clear bun ka
        by_cases h5 : x < 5
        · as_aux_lemma =>
          have hxi : (x : Int) < 5 := by omega
          have KA' := Lib.hid (show Blk wr wo.heap.size 23 (natsV .u64 (tell (fun i => if i % 5 < x ∨ (i % 5 = x ∧ i / 5 < 0) then thetaAt c i else (zeros 25).getD i 0) 25)) from by
            rw [← upd_iff (fun i => i % 5 < x) _ _ _ _ (by omega)]; exact KA.out)
          clear KA
          go_wp2_with fail
          go_loopw [8, 9, 10] (fun vc vd i wr => ∃ y : Nat, y ≤ 5 ∧ i = .int .i64 y ∧ vc = .int .u64 (colP c ((x + 4) % 5) y : Nat) ∧ vd = .int .u64 (colP c ((x + 1) % 5) y : Nat) ∧ Bun w.heap.size GO GC c w wr ∧ Blk wr wo.heap.size 23 (natsV .u64 (tell (fun i => if i % 5 < x ∨ (i % 5 = x ∧ i / 5 < 0) then thetaAt c i else (zeros 25).getD i 0) 25))) (fun _ _ i _ => 5 - (intOf i).toNat)
          case atStart => exact ⟨0, by omega, rfl, rfl, rfl, BUN.out, KA'.out⟩
          case round =>
            clear BUN KA'
            obtain ⟨y, hy5, rfl, rfl, rfl, bun, ka⟩ := hrel
            have BUN := Lib.hid bun
            have KA := Lib.hid ka
            clear bun ka
            by_cases h5y : y < 5
            · have hyi : (y : Int) < 5 := by omega
              have c4 := BUN.out.1.nat ((x + 4) % 5 + 5 * y) (by rw [HL.out]; omega)
              have c1 := BUN.out.1.nat ((x + 1) % 5 + 5 * y) (by rw [HL.out]; omega)
              have HP4 := Lib.hid (show colP c ((x + 4) % 5) (y + 1) = xo (colP c ((x + 4) % 5) y) (c.getD ((x + 4) % 5 + 5 * y) 0) from rfl)
              have HP1 := Lib.hid (show colP c ((x + 1) % 5) (y + 1) = xo (colP c ((x + 1) % 5) y) (c.getD ((x + 1) % 5 + 5 * y) 0) from rfl)
              generalize c.getD ((x + 4) % 5 + 5 * y) 0 = v4 at *
              generalize c.getD ((x + 1) % 5 + 5 * y) 0 = v1 at *
              generalize colP c ((x + 4) % 5) y = a4 at *
              generalize colP c ((x + 1) % 5) y = a1 at *
              have d4 : ((x : Int) + 4) % 5 = (((x + 4) % 5 : Nat) : Int) := by omega
              have d1 : ((x : Int) + 1) % 5 = (((x + 1) % 5 : Nat) : Int) := by omega
              have hq4 : (x + 4) % 5 < 5 := by omega
              have hq1 : (x + 1) % 5 < 5 := by omega
              generalize hQ4 : (x + 4) % 5 = q4 at *
              generalize hQ1 : (x + 1) % 5 = q1 at *
              have HQ4 := Lib.hid hQ4
              have HQ1 := Lib.hid hQ1
              clear hQ4 hQ1
              have g4 : (q4 : Int) + 5 * (y : Int) = ((q4 + 5 * y : Nat) : Int) := by omega
              have g1 : (q1 : Int) + 5 * (y : Int) = ((q1 + 5 * y : Nat) : Int) := by omega
              have i4 : ((q4 + 5 * y : Nat) : Int) < 25 := by omega
              have i1 : ((q1 + 5 * y : Nat) : Int) < 25 := by omega
              generalize q4 + 5 * y = p4 at *
              generalize q1 + 5 * y = p1 at *
              have rx := u64_xo
              go_wp2_with fail
              go_roundw
              case rel => exact ⟨y + 1, by omega, by go_num, by rw [HP4.out], by rw [HP1.out], BUN.out, KA.out⟩
              case measure => simp [intOf]; omega
            · obtain rfl : y = 5 := by omega
              rw [show ((5 : Nat) : Int) = 5 from rfl, colP_five c HG.out, colP_five c HG.out]
              have HD := Lib.hid (show colD c x = xo (colS c ((x + 4) % 5)) (rl 1 (colS c ((x + 1) % 5))) from rfl)
              have HLF := Lib.hid (left_lit (colS c ((x + 1) % 5)) 1 1 rfl (by decide) (colS_lt c _))
              generalize colS c ((x + 4) % 5) = y4 at *
              generalize colS c ((x + 1) % 5) = y1 at *
              generalize rl 1 y1 = z1 at *
              go_wp2_with fail
              go_loopw [11] (fun i wr => ∃ y : Nat, y ≤ 5 ∧ i = .int .i64 y ∧ Bun w.heap.size GO GC c w wr ∧ Blk wr wo.heap.size 23 (natsV .u64 (tell (fun i => if i % 5 < x ∨ (i % 5 = x ∧ i / 5 < y) then thetaAt c i else (zeros 25).getD i 0) 25))) (fun i _ => 5 - (intOf i).toNat)
              case atStart => exact ⟨0, by omega, rfl, BUN.out, KA.out⟩
              case round =>
                clear BUN KA
                obtain ⟨y, hy5, rfl, bun, ka⟩ := hrel
                have BUN := Lib.hid bun
                have KA := Lib.hid ka
                clear bun ka
                by_cases h5y : y < 5
                · have hyi : (y : Int) < 5 := by omega
                  have hc := BUN.out.1.nat (x + 5 * y) (by rw [HL.out]; omega)
                  have hd := KA.out.nat (x + 5 * y) (by rw [tell_length]; omega)
                  have hf := KA.out.free (x + 5 * y)
                  have HSET := Lib.hid (upd_step (fun i => i % 5 < x ∨ (i % 5 = x ∧ i / 5 < y)) (fun i => i % 5 < x ∨ (i % 5 = x ∧ i / 5 < y + 1)) (thetaAt c) (fun i => (zeros 25).getD i 0) 25 (x + 5 * y) (xo (xo (c.getD (x + 5 * y) 0) y4) z1) (by omega) (by unfold thetaAt; rw [show (x + 5 * y) % 5 = x by omega, HD.out, xo_assoc]) (by omega))
                  have e1 : IntKind.i64.wrap (5 * (y : Int)) = ((5 * y : Nat) : Int) := by rw [IntWalk.i64_in _ (by omega)]; omega
                  have e2 : IntKind.i64.wrap ((x : Int) + ((5 * y : Nat) : Int)) = ((x + 5 * y : Nat) : Int) := by rw [IntWalk.i64_in _ (by omega)]; omega
                  have i1 : ((x + 5 * y : Nat) : Int) < 25 := by omega
                  generalize c.getD (x + 5 * y) 0 = v at *
                  generalize x + 5 * y = p at *
                  generalize 5 * y = y5 at *
                  have rx := u64_xo
                  go_wp2_with fail
                  refine wp_region_still_tail 16 (by kernel_rfl) (by kernel_rfl) ?_
                  change wpStill _ _ wr.drew _ _ _
                  simp only [List.take_succ_cons, List.take_zero, List.drop_succ_cons, List.drop_zero]
                  iterate 13 still_step
                  still_call (flipC (HLF.out _))
                  iterate 2 still_step
                  refine wpStill_nil ?_
                  change wpList _ _ _ _ _ wr.drew
                  clear e1 e2 rx
                  go_wp2_with fail
                  have ka := KA.out.natSet p (xo (xo v y4) z1)
                  rw [HSET.out] at ka
                  have bun := BUN.out.other (i := p) (.int .u64 (xo (xo v y4) z1 : Nat)) (by omega) (by omega) hGA
                  go_roundw
                  case rel => exact ⟨y + 1, by omega, by go_num, bun.drew, ka⟩
                  case measure => simp [intOf]; omega
                · obtain rfl : y = 5 := by omega
                  have KA' := Lib.hid (show Blk wr wo.heap.size 23 (natsV .u64 (tell (fun i => if i % 5 < x + 1 then thetaAt c i else (zeros 25).getD i 0) 25)) from by
                    rw [← upd_iff (fun i => i % 5 < x ∨ (i % 5 = x ∧ i / 5 < 5)) _ _ _ _ (by omega)]; exact KA.out)
                  clear KA
                  rw [show ((5 : Nat) : Int) = 5 from rfl]
                  go_wp2_with fail
                  go_roundw
                  case rel => exact ⟨x + 1, by omega, by go_num, BUN.out, KA'.out⟩
                  case measure => simp [intOf]; omega
        · obtain rfl : x = 5 := by omega
          rw [show ((5 : Nat) : Int) = 5 from rfl]
          have KA1 := Lib.hid (show Blk wr wo.heap.size 23 (natsV .u64 (theta c)) from by
            have := KA.out
            rwa [upd_all _ _ _ _ (by omega)] at this)
          have HLA := Lib.hid (theta_good c).1
          have HGA2 := Lib.hid (theta_good c)
          clear KA
          generalize theta c = a at *
          have BUN1 := Lib.hid (BUN.out.alloc (.cells (natsV .u64 (zeros 25)).toArray 23))
          have KA2 := Lib.hid (KA1.out.alloc (.cells (natsV .u64 (zeros 25)).toArray 23))
          have KB := Lib.hid (Blk.new wr 23 (natsV .u64 (zeros 25)))
          have hGB : wo.heap.size < wr.heap.size := KA1.out.lt
          obtain ⟨wb, hwb⟩ : ∃ wb : World, wb = wr := ⟨_, rfl⟩
          subst hwb
          clear BUN KA1
          go_wp2_with fail
          go_loopw [13] (fun i wr => ∃ x : Nat, x ≤ 5 ∧ i = .int .i64 x ∧ Bun w.heap.size GO GC c w wr ∧ Blk wr wo.heap.size 23 (natsV .u64 a) ∧ Blk wr wb.heap.size 23 (natsV .u64 (tell (fun i => if srcT.getD i 0 % 5 < x ∨ (srcT.getD i 0 % 5 = x ∧ srcT.getD i 0 / 5 < 0) then moveAt a i else (zeros 25).getD i 0) 25))) (fun i _ => 5 - (intOf i).toNat)
          case atStart => exact ⟨0, by omega, rfl, BUN1.out, KA2.out, by rw [upd_none _ _ (zeros 25) 25 rfl (by omega)]; exact KB.out⟩
          case round =>
            clear BUN1 KA2 KB
            obtain ⟨x, hx5, rfl, bun, ka, kb⟩ := hrel
            have BUN := Lib.hid bun
            have KA := Lib.hid ka
            have KB := Lib.hid kb
            clear bun ka kb
            by_cases h5 : x < 5
            · as_aux_lemma =>
              have hxi : (x : Int) < 5 := by omega
              go_wp2_with fail
              go_loopw [14] (fun i wr => ∃ y : Nat, y ≤ 5 ∧ i = .int .i64 y ∧ Bun w.heap.size GO GC c w wr ∧ Blk wr wo.heap.size 23 (natsV .u64 a) ∧ Blk wr wb.heap.size 23 (natsV .u64 (tell (fun i => if srcT.getD i 0 % 5 < x ∨ (srcT.getD i 0 % 5 = x ∧ srcT.getD i 0 / 5 < y) then moveAt a i else (zeros 25).getD i 0) 25))) (fun i _ => 5 - (intOf i).toNat)
              case atStart => exact ⟨0, by omega, rfl, BUN.out, KA.out, KB.out⟩
              case round =>
                clear BUN KA KB
                obtain ⟨y, hy5, rfl, bun, ka, kb⟩ := hrel
                have BUN := Lib.hid bun
                have KA := Lib.hid ka
                have KB := Lib.hid kb
                clear bun ka kb
                by_cases h5y : y < 5
                · have hyi : (y : Int) < 5 := by omega
                  obtain ⟨hj, hsrc, hoff, ho⟩ := by_facts x h5 y h5y
                  have hc := KA.out.nat (x + 5 * y) (by rw [HLA.out]; omega)
                  have hoc := BUN.out.2.2.1.nat (x + 5 * y) (by rw [LO.out]; omega)
                  have hd := KB.out.nat (y + 5 * ((2 * x + 3 * y) % 5)) (by rw [tell_length]; exact hj)
                  have hf := KB.out.free (y + 5 * ((2 * x + 3 * y) % 5))
                  have HSET := Lib.hid (upd_step (fun i => srcT.getD i 0 % 5 < x ∨ (srcT.getD i 0 % 5 = x ∧ srcT.getD i 0 / 5 < y)) (fun i => srcT.getD i 0 % 5 < x ∨ (srcT.getD i 0 % 5 = x ∧ srcT.getD i 0 / 5 < y + 1)) (moveAt a) (fun i => (zeros 25).getD i 0) 25 (y + 5 * ((2 * x + 3 * y) % 5)) (rl (offS.getD (x + 5 * y) 0) (a.getD (x + 5 * y) 0)) hj (by unfold moveAt; rw [hsrc, hoff]) (by_iff x h5 y h5y))
                  have HLF := Lib.hid (left_any (a.getD (x + 5 * y) 0) (offS.getD (x + 5 * y) 0) ho (HGA2.out.at _))
                  have e1 : IntKind.i64.wrap (5 * (y : Int)) = ((5 * y : Nat) : Int) := by rw [IntWalk.i64_in _ (by omega)]; omega
                  have e2 : IntKind.i64.wrap ((x : Int) + ((5 * y : Nat) : Int)) = ((x + 5 * y : Nat) : Int) := by rw [IntWalk.i64_in _ (by omega)]; omega
                  have e3 : IntKind.i64.wrap (2 * (x : Int)) = ((2 * x : Nat) : Int) := by rw [IntWalk.i64_in _ (by omega)]; omega
                  have e4 : IntKind.i64.wrap (3 * (y : Int)) = ((3 * y : Nat) : Int) := by rw [IntWalk.i64_in _ (by omega)]; omega
                  have e5 : IntKind.i64.wrap (((2 * x : Nat) : Int) + ((3 * y : Nat) : Int)) = ((2 * x + 3 * y : Nat) : Int) := by rw [IntWalk.i64_in _ (by omega)]; omega
                  have e6 : ((2 * x + 3 * y : Nat) : Int).tmod 5 = (((2 * x + 3 * y) % 5 : Nat) : Int) := by rw [Int.tmod_eq_emod_of_nonneg (by omega)]; omega
                  have hr5 : (2 * x + 3 * y) % 5 < 5 := Nat.mod_lt _ (by decide)
                  have e7 : IntKind.i64.wrap (5 * (((2 * x + 3 * y) % 5 : Nat) : Int)) = ((5 * ((2 * x + 3 * y) % 5) : Nat) : Int) := by rw [IntWalk.i64_in _ (by omega)]; omega
                  have e8 : IntKind.i64.wrap ((y : Int) + ((5 * ((2 * x + 3 * y) % 5) : Nat) : Int)) = ((y + 5 * ((2 * x + 3 * y) % 5) : Nat) : Int) := by rw [IntWalk.i64_in _ (by omega)]; omega
                  have i1 : ((x + 5 * y : Nat) : Int) < 25 := by omega
                  have i2 : ((y + 5 * ((2 * x + 3 * y) % 5) : Nat) : Int) < 25 := by omega
                  clear hsrc hoff hr5
                  generalize a.getD (x + 5 * y) 0 = v at *
                  generalize offS.getD (x + 5 * y) 0 = o at *
                  generalize y + 5 * ((2 * x + 3 * y) % 5) = p2 at *
                  generalize 5 * ((2 * x + 3 * y) % 5) = m5 at *
                  generalize (2 * x + 3 * y) % 5 = m at *
                  generalize 2 * x + 3 * y = m23 at *
                  generalize 2 * x = x2 at *
                  generalize 3 * y = y3 at *
                  generalize x + 5 * y = p at *
                  generalize 5 * y = y5 at *
                  generalize rl o v = z at *
                  go_wp2_with fail
                  refine wp_region_still_tail 23 (by kernel_rfl) (by kernel_rfl) ?_
                  change wpStill _ _ wr.drew _ _ _
                  simp only [List.take_succ_cons, List.take_zero, List.drop_succ_cons, List.drop_zero]
                  iterate 21 still_step
                  still_call (flipC (HLF.out _))
                  still_step
                  refine wpStill_nil ?_
                  change wpList _ _ _ _ _ wr.drew
                  clear e1 e2 e3 e4 e5 e6 e7 e8
                  go_wp2_with fail
                  have kb := KB.out.natSet p2 z
                  rw [HSET.out] at kb
                  have ka := KA.out.other ⟨wb.heap.size, p2, none⟩ (.int .u64 (z : Nat)) (by simp; omega)
                  have bun := BUN.out.other (i := p2) (.int .u64 (z : Nat)) (show w.heap.size + 1 < wb.heap.size by omega) (by omega) (by omega)
                  go_roundw
                  case rel => exact ⟨y + 1, by omega, by go_num, bun.drew, ka, kb⟩
                  case measure => simp [intOf]; omega
                · obtain rfl : y = 5 := by omega
                  have KB' := Lib.hid (show Blk wr wb.heap.size 23 (natsV .u64 (tell (fun i => if srcT.getD i 0 % 5 < x + 1 ∨ (srcT.getD i 0 % 5 = x + 1 ∧ srcT.getD i 0 / 5 < 0) then moveAt a i else (zeros 25).getD i 0) 25)) from by
                    rw [← upd_iff (fun i => srcT.getD i 0 % 5 < x ∨ (srcT.getD i 0 % 5 = x ∧ srcT.getD i 0 / 5 < 5)) _ _ _ _ (fun i hi => by have := src_lt i hi; omega)]; exact KB.out)
                  clear KB
                  rw [show ((5 : Nat) : Int) = 5 from rfl]
                  go_wp2_with fail
                  go_roundw
                  case rel => exact ⟨x + 1, by omega, by go_num, BUN.out, KA.out, KB'.out⟩
                  case measure => simp [intOf]; omega
            · obtain rfl : x = 5 := by omega
              rw [show ((5 : Nat) : Int) = 5 from rfl]
              have KB1 := Lib.hid (show Blk wr wb.heap.size 23 (natsV .u64 (move a)) from by
                have := KB.out
                rwa [upd_all _ _ _ _ (fun i hi => .inl (by have := src_lt i hi; omega))] at this)
              have HLB := Lib.hid (move_good HGA2.out).1
              clear KB KA HGA2
              generalize move a = b at *
              have BUN' := Lib.hid (show Bun w.heap.size GO GC (tell (fun i => if i % 5 < 0 ∨ (i % 5 = 0 ∧ i / 5 < 0) then chiAt b i else c.getD i 0) 25) w wr from by rw [upd_none _ _ c 25 HL.out (by omega)]; exact BUN.out)
              clear BUN
              go_wp2_with fail
              go_loopw [15] (fun i wr => ∃ x : Nat, x ≤ 5 ∧ i = .int .i64 x ∧ Bun w.heap.size GO GC (tell (fun i => if i % 5 < x ∨ (i % 5 = x ∧ i / 5 < 0) then chiAt b i else c.getD i 0) 25) w wr ∧ Blk wr wb.heap.size 23 (natsV .u64 b)) (fun i _ => 5 - (intOf i).toNat)
              case atStart => exact ⟨0, by omega, rfl, BUN'.out, KB1.out⟩
              case round =>
                clear BUN' KB1
                obtain ⟨x, hx5, rfl, bun, kb⟩ := hrel
                have BUN := Lib.hid bun
                have KB := Lib.hid kb
                clear bun kb
                by_cases h5 : x < 5
                · as_aux_lemma =>
                  have hxi : (x : Int) < 5 := by omega
                  go_wp2_with fail
                  go_loopw [16] (fun i wr => ∃ y : Nat, y ≤ 5 ∧ i = .int .i64 y ∧ Bun w.heap.size GO GC (tell (fun i => if i % 5 < x ∨ (i % 5 = x ∧ i / 5 < y) then chiAt b i else c.getD i 0) 25) w wr ∧ Blk wr wb.heap.size 23 (natsV .u64 b)) (fun i _ => 5 - (intOf i).toNat)
                  case atStart => exact ⟨0, by omega, rfl, BUN.out, KB.out⟩
                  case round =>
                    clear BUN KB
                    obtain ⟨y, hy5, rfl, bun, kb⟩ := hrel
                    have BUN := Lib.hid bun
                    have KB := Lib.hid kb
                    clear bun kb
                    by_cases h5y : y < 5
                    · have hyi : (y : Int) < 5 := by omega
                      have c0 := KB.out.nat (x + 5 * y) (by rw [HLB.out]; omega)
                      have c1 := KB.out.nat ((x + 1) % 5 + 5 * y) (by rw [HLB.out]; omega)
                      have c2 := KB.out.nat ((x + 2) % 5 + 5 * y) (by rw [HLB.out]; omega)
                      have hd := BUN.out.1.nat (x + 5 * y) (by rw [tell_length]; omega)
                      have hf := BUN.out.1.free (x + 5 * y)
                      have HSET := Lib.hid (upd_step (fun i => i % 5 < x ∨ (i % 5 = x ∧ i / 5 < y)) (fun i => i % 5 < x ∨ (i % 5 = x ∧ i / 5 < y + 1)) (chiAt b) (fun i => c.getD i 0) 25 (x + 5 * y) (xo (b.getD (x + 5 * y) 0) (an (no (b.getD ((x + 1) % 5 + 5 * y) 0)) (b.getD ((x + 2) % 5 + 5 * y) 0))) (by omega) (by unfold chiAt; rw [show (x + 5 * y) % 5 = x by omega, show (x + 5 * y) / 5 = y by omega]) (by omega))
                      obtain ⟨x1, hx1⟩ : ∃ x1, x1 = x + 1 := ⟨_, rfl⟩
                      obtain ⟨x2, hx2⟩ : ∃ x2, x2 = x + 2 := ⟨_, rfl⟩
                      have e1 : IntKind.i64.wrap (5 * (y : Int)) = ((5 * y : Nat) : Int) := by rw [IntWalk.i64_in _ (by omega)]; omega
                      have e2 : IntKind.i64.wrap ((x : Int) + ((5 * y : Nat) : Int)) = ((x + 5 * y : Nat) : Int) := by rw [IntWalk.i64_in _ (by omega)]; omega
                      have e3 : IntKind.i64.wrap ((x : Int) + 1) = (x1 : Int) := by rw [IntWalk.i64_in _ (by omega)]; omega
                      have e4 : IntKind.i64.wrap ((x : Int) + 2) = (x2 : Int) := by rw [IntWalk.i64_in _ (by omega)]; omega
                      have e5 : (x1 : Int).tmod 5 = (((x + 1) % 5 : Nat) : Int) := by rw [Int.tmod_eq_emod_of_nonneg (by omega)]; omega
                      have e6 : (x2 : Int).tmod 5 = (((x + 2) % 5 : Nat) : Int) := by rw [Int.tmod_eq_emod_of_nonneg (by omega)]; omega
                      have e7 : IntKind.i64.wrap ((((x + 1) % 5 : Nat) : Int) + ((5 * y : Nat) : Int)) = (((x + 1) % 5 + 5 * y : Nat) : Int) := by rw [IntWalk.i64_in _ (by omega)]; omega
                      have e8 : IntKind.i64.wrap ((((x + 2) % 5 : Nat) : Int) + ((5 * y : Nat) : Int)) = (((x + 2) % 5 + 5 * y : Nat) : Int) := by rw [IntWalk.i64_in _ (by omega)]; omega
                      have i0 : ((x + 5 * y : Nat) : Int) < 25 := by omega
                      have i1 : (((x + 1) % 5 + 5 * y : Nat) : Int) < 25 := by omega
                      have i2 : (((x + 2) % 5 + 5 * y : Nat) : Int) < 25 := by omega
                      generalize b.getD (x + 5 * y) 0 = v0 at *
                      generalize b.getD ((x + 1) % 5 + 5 * y) 0 = v1 at *
                      generalize b.getD ((x + 2) % 5 + 5 * y) 0 = v2 at *
                      generalize (x + 1) % 5 + 5 * y = p1 at *
                      generalize (x + 2) % 5 + 5 * y = p2 at *
                      generalize (x + 1) % 5 = r1 at *
                      generalize (x + 2) % 5 = r2 at *
                      generalize x + 5 * y = p at *
                      generalize 5 * y = y5 at *
                      have HX1 := Lib.hid hx1
                      have HX2 := Lib.hid hx2
                      clear hx1 hx2
                      have rx := u64_xo
                      have rd := u64_an
                      have rn := u64_no
                      have rs : (if IntKind.u64.signed = true then (-1 : Int) else IntKind.u64.max) = IntKind.u64.max := rfl
                      go_wp2_with fail
                      refine wp_region_still_tail 30 (by kernel_rfl) (by kernel_rfl) ?_
                      change wpStill _ _ wr.drew _ _ _
                      simp only [List.take_succ_cons, List.take_zero, List.drop_succ_cons, List.drop_zero]
                      iterate 30 still_step
                      refine wpStill_nil ?_
                      change wpList _ _ _ _ _ wr.drew
                      clear e1 e2 e3 e4 e5 e6 e7 e8 rx rd rn rs
                      go_wp2_with fail
                      have bun := BUN.out.set HSET.out (by omega) (by omega)
                      have kb := KB.out.other ⟨w.heap.size, p, none⟩ (.int .u64 (xo v0 (an (no v1) v2) : Nat)) (by simp; omega)
                      go_roundw
                      case rel => exact ⟨y + 1, by omega, by go_num, bun.drew, kb⟩
                      case measure => simp [intOf]; omega
                    · obtain rfl : y = 5 := by omega
                      have BUN' := Lib.hid (show Bun w.heap.size GO GC (tell (fun i => if i % 5 < x + 1 ∨ (i % 5 = x + 1 ∧ i / 5 < 0) then chiAt b i else c.getD i 0) 25) w wr from by
                        rw [← upd_iff (fun i => i % 5 < x ∨ (i % 5 = x ∧ i / 5 < 5)) _ _ _ _ (by omega)]; exact BUN.out)
                      clear BUN
                      rw [show ((5 : Nat) : Int) = 5 from rfl]
                      go_wp2_with fail
                      go_roundw
                      case rel => exact ⟨x + 1, by omega, by go_num, BUN'.out, KB.out⟩
                      case measure => simp [intOf]; omega
                · obtain rfl : x = 5 := by omega
                  rw [show ((5 : Nat) : Int) = 5 from rfl]
                  have BUN1 := Lib.hid (show Bun w.heap.size GO GC (chi b) w wr from by
                    have := BUN.out
                    rwa [upd_all _ _ _ _ (by omega)] at this)
                  have HLC := Lib.hid (chi_good b).1
                  clear BUN KB
                  generalize chi b = d at *
                  have c0 := BUN1.out.1.nat 0 (by rw [HLC.out]; decide)
                  have hf := BUN1.out.1.free 0
                  have ck := BUN1.out.2.2.2.1.nat t (by rw [LC.out]; exact h24)
                  have HV := Lib.hid (show d.set 0 (xo (d.getD 0 0) (rcT.getD t 0)) = iota t d from rfl)
                  generalize rcT.getD t 0 = rc at *
                  generalize d.getD 0 0 = x0 at *
                  have rx := u64_xo
                  go_wp2_with fail
                  go_region
                  all_goals
                    have bun := BUN1.out.set HV.out (by omega) (by omega)
                    rw [← HR.out] at bun
                    clear rx
                    go_wp2_with fail
                    go_roundw
                    case rel => exact ⟨t + 1, by omega, by go_num, bun.drew⟩
                    case measure => simp [intOf]; omega
    · obtain rfl : t = 24 := by omega
      rw [show ((24 : Nat) : Int) = 24 from rfl]
      have J1 := Lib.hid (show Blk wr w.heap.size 23 (natsV .u64 (perm s)) from bun.1)
      have K2 := Lib.hid bun.2.1
      have hbel := bun.2.2.2.2
      have HL := Lib.hid (perm_good HS.out).1
      clear bun
      generalize perm s = m at *
      go_wp2_with (first | (refine wpList_load_row rfl 23 (.tmp 1) rfl w.heap.size rfl 23 (natsV .u64 m).toArray (0, 0) _ J1.out Tryd.underlying23 rfl (by rw [info23, size_nats, HL.out]) ?_) | (refine wpList_store_row rfl 23 (.tmp 2) (.tmp 147) rfl (w.heap.size + 1) (natsV .u64 m).toArray rfl rfl 23 (natsV .u64 (zeros 25)).toArray K2.out (by rw [info23, size_nats, HL.out]) (by rw [size_nats, size_nats, HL.out]; rfl) (all_nats _ _) ?_))
      have j2 := K2.out.setRow (natsV .u64 m)
      have hb2 := below_setRow' hbel (show w.heap.size ≤ w.heap.size + 1 by omega) (natsV .u64 m).toArray
      refine bodyPost_ret (v := .agg (natsV .u64 m).toArray) ?_ rfl ⟨rfl, hb2⟩
      exact results_cell_row Tryd.results10 _ _ (w.heap.size + 1) 23 _ (0, 0) _ rfl j2 Tryd.underlying23 rfl (by rw [info23, size_nats, HL.out])
end Go.Proofs.YtidnlaibfkjgpaaDoor
