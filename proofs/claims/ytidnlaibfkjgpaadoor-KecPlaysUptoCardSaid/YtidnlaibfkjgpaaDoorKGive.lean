/- A sponge gives bytes out: the project's function answers the plain one. Condition: the table of constants; no more than 65536 bytes. -/
import Derived.Test.YtidnlaibfkjgpaaDoorKSp
import Derived.Deep.OwnRows
namespace Go.Proofs.YtidnlaibfkjgpaaDoor
open Go.RowKit
set_option linter.unusedVariables false
theorem info5m : (Tryd.prog.info? 5).map (fun i => (i.zero, i.size, i.bytes)) = some (some (.int .u8 0), 1, 1) := info5
theorem made_bytes (n : Nat) : madeCells #[Value.int .u8 0] n = (natsV .u8 (zeros n)).toArray := by
  apply Array.ext
  · simp [madeCells, natsV, zeros]
  · intro i h1 h2
    simp [madeCells, natsV, zeros, Nat.mod_one]
theorem mk_u8 (n : Nat) (hn : n ≤ 100000) (w : World) : (Instr.makeSlice 27 (.int .i64 (n : Int)) (.int .i64 (n : Int))).run Tryd.prog w = .ok (.slice (some ⟨w.heap.size, 0, none⟩) n n) (w.alloc (.cells (natsV .u8 (zeros n)).toArray 5)) := by
  rw [← made_bytes]
  exact run_make_row' 27 5 (.int .u8 0) 1 Tryd.underlying27 info5m rfl .i64 .i64 n (by omega) (by omega) w
theorem grown_cell {w w1 : World} {g G i : Nat} (h : w.grownBy w1 (some g)) (hG : w.heap.size ≤ G) (v : Value) : w.grownBy (w1.setCell ⟨G, i, none⟩ v) (some g) :=
  ⟨h.os, h.tape, h.output, by simp [World.setCell]; exact h.size, fun j hj hr => (heap_setCell_other w1 ⟨G, i, none⟩ j v (by simp; omega)).trans (h.block j hj hr)⟩
theorem grown_alloc {w w1 : World} {r : Option Nat} (h : w.grownBy w1 r) (o : Obj) : w.grownBy (w1.alloc o) r :=
  grown_trans h (grown_below ((Below.refl _ _).alloc (Nat.le_refl _) o) r)
/-- how many bytes are left behind n -/
def leftN (lf : Int) (n : Nat) : Int := if lf = -1 then -1 else lf - n
/-- where the bytes come from -/
def outOf (k : Nat) (gv : Bool) (p : List Nat × Nat) : List Nat × Nat := if gv then p else (endN k p, 0)
/-- what 'give' answers -/
def GiveIs (g k n : Nat) (lf : Int) (p : List Nat × Nat) (w : World) (e : Ending) (w' : World) : Prop := ∃ G, e = .returned (.slice (some ⟨G, 0, none⟩) n n) ∧ w.heap.size ≤ G ∧ Blk w' G 5 (natsV .u8 (sqB (rateK k) p n)) ∧ SpAt w' g k (sqS (rateK k) p n).2 true (leftN lf n) (sqS (rateK k) p n).1 ∧ w.grownBy w' (some g)

set_option maxRecDepth 100000 in
set_option maxHeartbeats 1600000 in
theorem give_new (g k a n : Nat) (lf : Int) (s : List Nat) (w : World) (h : SpAt w g k a false lf s) (hn : n ≤ 65536) (hlf : lf = -1 ∨ (n : Int) ≤ lf ∧ lf ≤ 64) (htab : Tabs w) (p0 : List Nat × Nat) (hp0 : (endN k (s, a), 0) = p0) :
    Calls Tryd.prog 36 #[.pointer (some ⟨g, 0, none⟩), .int .i64 (n : Nat)] w (GiveIs g k n lf p0 w) := by
  have HEND := Lib.hid (end_any g k a false lf s w h htab)
  obtain ⟨hk, hs, ha, hg, hb⟩ := h
  have hr := (rateK_le hk)
  have hmk := mk_u8 n (by omega)
  have HK := Lib.hid hk
  have HTAB := Lib.hid htab
  have hgv := sp_gv hb hs.1
  have hgl := hb.lt
  have HB := Lib.hid hb
  have HGD0 := Lib.hid (show Good p0.1 ∧ p0.2 < rateK k from by rw [← hp0]; exact ⟨endN_good hs, by show 0 < rateK k; omega⟩)
  have HP0 := Lib.hid hp0
  clear hp0
  clear htab hb hk hs
  go_enter Tryd.func36, Tryd.ntmps36
  go_wp2_with fail
  refine HEND.out.mono ?_
  rintro e w1 ⟨rfl, hb1, hg1⟩
  have HB1 := Lib.hid (show Blk w1 g 76 (spV k p0.2 true lf p0.1) from by rw [← HP0.out]; exact hb1)
  have HG1 := Lib.hid hg1
  clear hb1 hg1 hgv
  have HGD := Lib.hid (fun m => sqS_good (r := rateK k) (by omega) HGD0.out.1 HGD0.out.2 m)
  clear HEND
  have hsz : w.heap.size ≤ w1.heap.size := HG1.out.size
  have hgl2 : g < w1.heap.size := HB1.out.lt
  have KB := Lib.hid (Blk.new w1 5 (natsV .u8 (zeros n)))
  have HBa := Lib.hid (HB1.out.alloc (.cells (natsV .u8 (zeros n)).toArray 5))
  have HGa := Lib.hid (grown_alloc HG1.out (.cells (natsV .u8 (zeros n)).toArray 5))
  clear HB1 HG1
  obtain ⟨G, hG⟩ : ∃ G, G = w1.heap.size := ⟨_, rfl⟩
  have hGg : g < G := by omega
  have hwG : w.heap.size ≤ G := by omega
  have KB' := Lib.hid (show Blk (w1.alloc (.cells (natsV .u8 (zeros n)).toArray 5)) G 5 (natsV .u8 (zeros n)) from by rw [hG]; exact KB.out)
  have HWG := Lib.hid hG
  clear KB hG hsz
  go_wp2_with fail
  rw [← HWG.out]
  clear hmk
  go_loopw [18] (fun i wr => ∃ m : Nat, m ≤ n ∧ i = .int .i64 m ∧ Blk wr G 5 (natsV .u8 (sqB (rateK k) p0 m ++ zeros (n - m))) ∧ Blk wr g 76 (spV k (sqS (rateK k) p0 m).2 true lf (sqS (rateK k) p0 m).1) ∧ w.grownBy wr (some g)) (fun i _ => n - (intOf i).toNat)
  case atStart => exact ⟨0, by omega, rfl, KB'.out, HBa.out, HGa.out⟩
  case round =>
    clear KB' HBa HGa
    obtain ⟨m, hm, rfl, kb, hbl, hgr⟩ := hrel
    have hgd := HGD.out m
    have KB := Lib.hid kb
    have HBL := Lib.hid hbl
    have HGR := Lib.hid hgr
    clear kb hbl hgr
    by_cases hmn : m < n
    · as_aux_lemma =>
      have hmi : (m : Int) < (n : Int) := by omega
      have hLEN : (sqB (rateK k) p0 m ++ zeros (n - m)).length = n := by simp [sqB_length, zeros]; omega
      have hck := KB.out.nat m (by rw [hLEN]; exact hmn)
      have hfk := KB.out.free m
      have HNX := Lib.hid (show sqS (rateK k) p0 (m + 1) = stepN (rateK k) (sqS (rateK k) p0 m) from rfl)
      have HFL := Lib.hid (show (sqB (rateK k) p0 m ++ zeros (n - m)).set m (byteN (sqS (rateK k) p0 m).1 (sqS (rateK k) p0 m).2) = sqB (rateK k) p0 (m + 1) ++ zeros (n - (m + 1)) from fill_tell (fun i => byteN (sqS (rateK k) p0 i).1 (sqS (rateK k) p0 i).2) n m hmn)
      have HT1 := Lib.hid (HTAB.out.grown HGR.out hg)
      clear hLEN
      generalize sqS (rateK k) p0 m = q at *
      obtain ⟨s1, a1⟩ := q
      have ha1 : a1 < rateK k := hgd.2
      have HS1 := Lib.hid hgd.1
      have hat := sp_at HBL.out hgd.1.1
      have hcw := sp_word HBL.out (a1 / 8) (by rw [HS1.out.1]; omega)
      have hvl := HS1.out.at (a1 / 8)
      have HBY := Lib.hid (show byteN s1 a1 = s1.getD (a1 / 8) 0 / 2 ^ (8 * (a1 % 8)) % 256 from rfl)
      have m1 : (a1 : Int).tdiv 8 = ((a1 / 8 : Nat) : Int) := by rw [Int.tdiv_eq_ediv_of_nonneg (by omega)]; omega
      have m2 : (a1 : Int).tmod 8 = ((a1 % 8 : Nat) : Int) := by rw [Int.tmod_eq_emod_of_nonneg (by omega)]; omega
      have e1 : IntKind.i64.wrap (8 * ((a1 % 8 : Nat) : Int)) = ((8 * (a1 % 8) : Nat) : Int) := by rw [IntWalk.i64_in _ (by omega)]; omega
      have hE : 8 * (a1 % 8) ≤ 56 := by omega
      have e2 : min (8 * (a1 % 8)) 64 = 8 * (a1 % 8) := by omega
      have d1 : ((s1.getD (a1 / 8) 0 : Nat) : Int) / 2 ^ (8 * (a1 % 8)) = ((s1.getD (a1 / 8) 0 / 2 ^ (8 * (a1 % 8)) : Nat) : Int) := by rw [cast_pow, ← Int.natCast_ediv]
      have u1 : ∀ z : Nat, IntKind.u8.wrap (z : Int) = ((z % 256 : Nat) : Int) := fun z => by rw [IntKind.wrap_u8]; omega
      have wq1 : IntKind.i64.wrap ((a1 / 8 : Nat) : Int) = ((a1 / 8 : Nat) : Int) := by rw [IntWalk.i64_in _ (by omega)]
      have wq2 : IntKind.i64.wrap ((a1 % 8 : Nat) : Int) = ((a1 % 8 : Nat) : Int) := by rw [IntWalk.i64_in _ (by omega)]
      have i1 : ((a1 / 8 : Nat) : Int) < 25 := by omega
      have i2 : ((8 * (a1 % 8) : Nat) : Int) < 64 := by omega
      have hbl2 := byteN s1 a1
      clear hgd hbl2
      generalize s1.getD (a1 / 8) 0 = v at *
      generalize v / 2 ^ (8 * (a1 % 8)) = vq at *
      generalize 8 * (a1 % 8) = E at *
      generalize a1 % 8 = r8 at *
      generalize a1 / 8 = q8 at *
      go_wp2_with fail
      refine wp_region_still_tail 21 (by kernel_rfl) (by kernel_rfl) ?_
      change wpStill _ _ wr.drew _ _ _
      simp only [List.take_succ_cons, List.take_zero, List.drop_succ_cons, List.drop_zero]
      iterate 21 still_step
      refine wpStill_nil ?_
      change wpList _ _ _ _ _ wr.drew
      clear m1 m2 e1 wq1 wq2
      have hvb : vq % 256 < 256 := Nat.mod_lt _ (by decide)
      rw [show ((vq : Int) % 256) = ((vq % 256 : Nat) : Int) from by omega]
      rw [← HBY.out] at hvb ⊢
      generalize byteN s1 a1 = bt at *
      clear u1 d1
      go_wp2_with fail
      have HKB1 := Lib.hid (show Blk ((wr.setCell ⟨G, m, none⟩ (.int .u8 (bt : Nat))).drew) G 5 (natsV .u8 (sqB (rateK k) p0 (m + 1) ++ zeros (n - (m + 1)))) from by rw [← HFL.out]; exact KB.out.natSet m bt)
      have HBL1 := Lib.hid (show Blk ((wr.setCell ⟨G, m, none⟩ (.int .u8 (bt : Nat))).drew) g 76 (spV k a1 true lf s1) from HBL.out.other ⟨G, m, none⟩ (.int .u8 (bt : Nat)) (by simp; omega))
      have HGR1 := Lib.hid (grown_drewN (grown_cell (i := m) HGR.out hwG (.int .u8 (bt : Nat))) 1)
      have HT2 := Lib.hid (HTAB.out.grown HGR1.out hg)
      clear KB HBL HGR HT1 hat hcw hck hfk
      refine (step_any g k a1 true lf s1 _ ⟨HK.out, HS1.out, ha1, hg, HBL1.out⟩ HT2.out).mono ?_
      rintro e w2 ⟨rfl, hb2, hg2⟩
      have HB2 := Lib.hid (show Blk w2 g 76 (spV k (sqS (rateK k) p0 (m + 1)).2 true lf (sqS (rateK k) p0 (m + 1)).1) from by rw [HNX.out]; exact hb2)
      have HG2 := Lib.hid (grown_trans HGR1.out hg2)
      have HKB2 := Lib.hid (HKB1.out.grown hg2 (fun e => by injection e with e; omega))
      clear hb2 hg2 HKB1 HGR1 HT2 HBL1
      go_wp2_with fail
      go_roundw
      case rel => exact ⟨m + 1, by omega, by go_num, HKB2.out, HB2.out, HG2.out⟩
      case measure => simp [intOf]; omega
    · obtain rfl : m = n := by omega
      rw [Nat.sub_self, show zeros 0 = [] from rfl, List.append_nil] at KB
      have hlfc := sp_lf HBL.out hgd.1.1
      have hflf := HBL.out.free 28
      have HS1 := Lib.hid hgd.1
      have ha2 : (sqS (rateK k) p0 m).2 < rateK k := hgd.2
      clear hgd
      by_cases hl : lf = -1
      · subst hl
        go_wp2_with fail
        go_ret
        exact ⟨G, rfl, hwG, KB.out, ⟨HK.out, HS1.out, ha2, hg, HBL.out⟩, HGR.out⟩
      · have hlb : (lf != -1) = true := by rw [bne_iff_ne]; exact hl
        have hlf2 := hlf.resolve_left hl
        have h1 : (m : Int) ≤ lf := hlf2.1
        have h2 : lf ≤ 64 := hlf2.2
        have HLN := Lib.hid (show leftN lf m = lf - m from by unfold leftN; rw [if_neg hl])
        have HB3 := Lib.hid (sp_setLf HBL.out HS1.out.1 (lf - m))
        have HG3 := Lib.hid (grown_trans HGR.out (grown_setCell wr ⟨g, 28, none⟩ (.int .i64 (lf - m))))
        have HK3 := Lib.hid (KB.out.other ⟨g, 28, none⟩ (.int .i64 (lf - m)) (by simp; omega))
        have HLF := Lib.hid hlf
        clear hl hlf hlf2 KB HGR
        go_wp2_with fail
        go_ret
        exact ⟨G, rfl, hwG, HK3.out, ⟨HK.out, HS1.out, ha2, hg, by rw [HLN.out]; exact HB3.out⟩, HG3.out⟩

set_option maxRecDepth 100000 in
set_option maxHeartbeats 1600000 in
theorem give_on (g k a n : Nat) (lf : Int) (s : List Nat) (w : World) (h : SpAt w g k a true lf s) (hn : n ≤ 65536) (hlf : lf = -1 ∨ (n : Int) ≤ lf ∧ lf ≤ 64) (htab : Tabs w) (p0 : List Nat × Nat) (hp0 : (s, a) = p0) :
    Calls Tryd.prog 36 #[.pointer (some ⟨g, 0, none⟩), .int .i64 (n : Nat)] w (GiveIs g k n lf p0 w) := by
  have HEND := Lib.hid (end_any g k a true lf s w h htab)
  obtain ⟨hk, hs, ha, hg, hb⟩ := h
  have hr := (rateK_le hk)
  have hmk := mk_u8 n (by omega)
  have HK := Lib.hid hk
  have HTAB := Lib.hid htab
  have hgv := sp_gv hb hs.1
  have hgl := hb.lt
  have HB := Lib.hid hb
  have HGD0 := Lib.hid (show Good p0.1 ∧ p0.2 < rateK k from by rw [← hp0]; exact ⟨hs, ha⟩)
  have HP0 := Lib.hid hp0
  clear hp0
  clear htab hb hk hs
  go_enter Tryd.func36, Tryd.ntmps36
  go_wp2_with fail
  have HB1 := Lib.hid (show Blk w g 76 (spV k p0.2 true lf p0.1) from by rw [← HP0.out]; exact HB.out)
  have HG1 := Lib.hid (grown_refl w (some g))
  clear hgv
  have HGD := Lib.hid (fun m => sqS_good (r := rateK k) (by omega) HGD0.out.1 HGD0.out.2 m)
  clear HEND
  have hsz : w.heap.size ≤ w.heap.size := HG1.out.size
  have hgl2 : g < w.heap.size := HB1.out.lt
  have KB := Lib.hid (Blk.new w 5 (natsV .u8 (zeros n)))
  have HBa := Lib.hid (HB1.out.alloc (.cells (natsV .u8 (zeros n)).toArray 5))
  have HGa := Lib.hid (grown_alloc HG1.out (.cells (natsV .u8 (zeros n)).toArray 5))
  clear HB1 HG1
  obtain ⟨G, hG⟩ : ∃ G, G = w.heap.size := ⟨_, rfl⟩
  have hGg : g < G := by omega
  have hwG : w.heap.size ≤ G := by omega
  have KB' := Lib.hid (show Blk (w.alloc (.cells (natsV .u8 (zeros n)).toArray 5)) G 5 (natsV .u8 (zeros n)) from by rw [hG]; exact KB.out)
  have HWG := Lib.hid hG
  clear KB hG hsz
  go_wp2_with fail
  rw [← HWG.out]
  clear hmk
  go_loopw [18] (fun i wr => ∃ m : Nat, m ≤ n ∧ i = .int .i64 m ∧ Blk wr G 5 (natsV .u8 (sqB (rateK k) p0 m ++ zeros (n - m))) ∧ Blk wr g 76 (spV k (sqS (rateK k) p0 m).2 true lf (sqS (rateK k) p0 m).1) ∧ w.grownBy wr (some g)) (fun i _ => n - (intOf i).toNat)
  case atStart => exact ⟨0, by omega, rfl, KB'.out, HBa.out, HGa.out⟩
  case round =>
    clear KB' HBa HGa
    obtain ⟨m, hm, rfl, kb, hbl, hgr⟩ := hrel
    have hgd := HGD.out m
    have KB := Lib.hid kb
    have HBL := Lib.hid hbl
    have HGR := Lib.hid hgr
    clear kb hbl hgr
    by_cases hmn : m < n
    · as_aux_lemma =>
      have hmi : (m : Int) < (n : Int) := by omega
      have hLEN : (sqB (rateK k) p0 m ++ zeros (n - m)).length = n := by simp [sqB_length, zeros]; omega
      have hck := KB.out.nat m (by rw [hLEN]; exact hmn)
      have hfk := KB.out.free m
      have HNX := Lib.hid (show sqS (rateK k) p0 (m + 1) = stepN (rateK k) (sqS (rateK k) p0 m) from rfl)
      have HFL := Lib.hid (show (sqB (rateK k) p0 m ++ zeros (n - m)).set m (byteN (sqS (rateK k) p0 m).1 (sqS (rateK k) p0 m).2) = sqB (rateK k) p0 (m + 1) ++ zeros (n - (m + 1)) from fill_tell (fun i => byteN (sqS (rateK k) p0 i).1 (sqS (rateK k) p0 i).2) n m hmn)
      have HT1 := Lib.hid (HTAB.out.grown HGR.out hg)
      clear hLEN
      generalize sqS (rateK k) p0 m = q at *
      obtain ⟨s1, a1⟩ := q
      have ha1 : a1 < rateK k := hgd.2
      have HS1 := Lib.hid hgd.1
      have hat := sp_at HBL.out hgd.1.1
      have hcw := sp_word HBL.out (a1 / 8) (by rw [HS1.out.1]; omega)
      have hvl := HS1.out.at (a1 / 8)
      have HBY := Lib.hid (show byteN s1 a1 = s1.getD (a1 / 8) 0 / 2 ^ (8 * (a1 % 8)) % 256 from rfl)
      have m1 : (a1 : Int).tdiv 8 = ((a1 / 8 : Nat) : Int) := by rw [Int.tdiv_eq_ediv_of_nonneg (by omega)]; omega
      have m2 : (a1 : Int).tmod 8 = ((a1 % 8 : Nat) : Int) := by rw [Int.tmod_eq_emod_of_nonneg (by omega)]; omega
      have e1 : IntKind.i64.wrap (8 * ((a1 % 8 : Nat) : Int)) = ((8 * (a1 % 8) : Nat) : Int) := by rw [IntWalk.i64_in _ (by omega)]; omega
      have hE : 8 * (a1 % 8) ≤ 56 := by omega
      have e2 : min (8 * (a1 % 8)) 64 = 8 * (a1 % 8) := by omega
      have d1 : ((s1.getD (a1 / 8) 0 : Nat) : Int) / 2 ^ (8 * (a1 % 8)) = ((s1.getD (a1 / 8) 0 / 2 ^ (8 * (a1 % 8)) : Nat) : Int) := by rw [cast_pow, ← Int.natCast_ediv]
      have u1 : ∀ z : Nat, IntKind.u8.wrap (z : Int) = ((z % 256 : Nat) : Int) := fun z => by rw [IntKind.wrap_u8]; omega
      have wq1 : IntKind.i64.wrap ((a1 / 8 : Nat) : Int) = ((a1 / 8 : Nat) : Int) := by rw [IntWalk.i64_in _ (by omega)]
      have wq2 : IntKind.i64.wrap ((a1 % 8 : Nat) : Int) = ((a1 % 8 : Nat) : Int) := by rw [IntWalk.i64_in _ (by omega)]
      have i1 : ((a1 / 8 : Nat) : Int) < 25 := by omega
      have i2 : ((8 * (a1 % 8) : Nat) : Int) < 64 := by omega
      have hbl2 := byteN s1 a1
      clear hgd hbl2
      generalize s1.getD (a1 / 8) 0 = v at *
      generalize v / 2 ^ (8 * (a1 % 8)) = vq at *
      generalize 8 * (a1 % 8) = E at *
      generalize a1 % 8 = r8 at *
      generalize a1 / 8 = q8 at *
      go_wp2_with fail
      refine wp_region_still_tail 21 (by kernel_rfl) (by kernel_rfl) ?_
      change wpStill _ _ wr.drew _ _ _
      simp only [List.take_succ_cons, List.take_zero, List.drop_succ_cons, List.drop_zero]
      iterate 21 still_step
      refine wpStill_nil ?_
      change wpList _ _ _ _ _ wr.drew
      clear m1 m2 e1 wq1 wq2
      have hvb : vq % 256 < 256 := Nat.mod_lt _ (by decide)
      rw [show ((vq : Int) % 256) = ((vq % 256 : Nat) : Int) from by omega]
      rw [← HBY.out] at hvb ⊢
      generalize byteN s1 a1 = bt at *
      clear u1 d1
      go_wp2_with fail
      have HKB1 := Lib.hid (show Blk ((wr.setCell ⟨G, m, none⟩ (.int .u8 (bt : Nat))).drew) G 5 (natsV .u8 (sqB (rateK k) p0 (m + 1) ++ zeros (n - (m + 1)))) from by rw [← HFL.out]; exact KB.out.natSet m bt)
      have HBL1 := Lib.hid (show Blk ((wr.setCell ⟨G, m, none⟩ (.int .u8 (bt : Nat))).drew) g 76 (spV k a1 true lf s1) from HBL.out.other ⟨G, m, none⟩ (.int .u8 (bt : Nat)) (by simp; omega))
      have HGR1 := Lib.hid (grown_drewN (grown_cell (i := m) HGR.out hwG (.int .u8 (bt : Nat))) 1)
      have HT2 := Lib.hid (HTAB.out.grown HGR1.out hg)
      clear KB HBL HGR HT1 hat hcw hck hfk
      refine (step_any g k a1 true lf s1 _ ⟨HK.out, HS1.out, ha1, hg, HBL1.out⟩ HT2.out).mono ?_
      rintro e w2 ⟨rfl, hb2, hg2⟩
      have HB2 := Lib.hid (show Blk w2 g 76 (spV k (sqS (rateK k) p0 (m + 1)).2 true lf (sqS (rateK k) p0 (m + 1)).1) from by rw [HNX.out]; exact hb2)
      have HG2 := Lib.hid (grown_trans HGR1.out hg2)
      have HKB2 := Lib.hid (HKB1.out.grown hg2 (fun e => by injection e with e; omega))
      clear hb2 hg2 HKB1 HGR1 HT2 HBL1
      go_wp2_with fail
      go_roundw
      case rel => exact ⟨m + 1, by omega, by go_num, HKB2.out, HB2.out, HG2.out⟩
      case measure => simp [intOf]; omega
    · obtain rfl : m = n := by omega
      rw [Nat.sub_self, show zeros 0 = [] from rfl, List.append_nil] at KB
      have hlfc := sp_lf HBL.out hgd.1.1
      have hflf := HBL.out.free 28
      have HS1 := Lib.hid hgd.1
      have ha2 : (sqS (rateK k) p0 m).2 < rateK k := hgd.2
      clear hgd
      by_cases hl : lf = -1
      · subst hl
        go_wp2_with fail
        go_ret
        exact ⟨G, rfl, hwG, KB.out, ⟨HK.out, HS1.out, ha2, hg, HBL.out⟩, HGR.out⟩
      · have hlb : (lf != -1) = true := by rw [bne_iff_ne]; exact hl
        have hlf2 := hlf.resolve_left hl
        have h1 : (m : Int) ≤ lf := hlf2.1
        have h2 : lf ≤ 64 := hlf2.2
        have HLN := Lib.hid (show leftN lf m = lf - m from by unfold leftN; rw [if_neg hl])
        have HB3 := Lib.hid (sp_setLf HBL.out HS1.out.1 (lf - m))
        have HG3 := Lib.hid (grown_trans HGR.out (grown_setCell wr ⟨g, 28, none⟩ (.int .i64 (lf - m))))
        have HK3 := Lib.hid (KB.out.other ⟨g, 28, none⟩ (.int .i64 (lf - m)) (by simp; omega))
        have HLF := Lib.hid hlf
        clear hl hlf hlf2 KB HGR
        go_wp2_with fail
        go_ret
        exact ⟨G, rfl, hwG, HK3.out, ⟨HK.out, HS1.out, ha2, hg, by rw [HLN.out]; exact HB3.out⟩, HG3.out⟩
end Go.Proofs.YtidnlaibfkjgpaaDoor
