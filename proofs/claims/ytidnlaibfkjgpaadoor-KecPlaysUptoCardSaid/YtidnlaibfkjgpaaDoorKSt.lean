/- For KecPlays: step 1 (func 19): both take in the same bytes. Condition: the table of constants; sizes. -/
import Derived.Test.YtidnlaibfkjgpaaDoorKRy
import Derived.Test.YtidnlaibfkjgpaaDoorKGr
namespace Go.Proofs.YtidnlaibfkjgpaaDoor
open Go.RowKit
set_option linter.unusedVariables false
set_option linter.unusedSimpArgs false
/-- what a step leaves -/
def StK (B gt ga gb : Nat) (ph : Option Nat) (L : List Nat) (v : Value) (m : Nat) (w : World) (e : Ending) (w' : World) : Prop := e = .returned (.bool true) ∧ ∃ ga' gb' k' ph' L' v', TwK w' gt ga' gb' ∧ KT w' B ga' gb' k' ph' L' v' ∧ Fr w w' (fun j => j = gt ∨ j = ga ∨ j = gb ∨ v.ownBlock = some j) ∧ B ≤ ga' ∧ B ≤ gb' ∧ L'.length ≤ L.length + m ∧ NK ph' ≤ NK ph + 65536
theorem own_blk {w : World} {base G n cap : Nat} {xs : List Value} (h : w.ownsRow base 5 1 (.slice (some ⟨G, 0, none⟩) n cap) n xs) (hn : 0 < n) : ∃ cs, Blk w G 5 cs ∧ n ≤ cs.length := by
  rcases h.2 with ⟨_, h0⟩ | ⟨g, cp, cur, hv, _, hG, h1, _, h3, _⟩
  · omega
  · simp only [Value.slice.injEq, Option.some.injEq, Addr.mk.injEq] at hv
    obtain ⟨⟨rfl, _⟩, _, rfl⟩ := hv
    exact ⟨cur.toList, by unfold Blk; rw [hG], by simp; omega⟩
set_option maxRecDepth 100000 in
set_option maxHeartbeats 3200000 in
theorem step1_late (gt ga gb B k : Nat) (ph : Option Nat) (L : List Nat) (v : Value) (N : Int) (a : Option Addr) (m c : Nat) (l : List Nat) (w : World) (hph : ph.isSome = true) (hb : BIn w a m c l) (ht : TwK w gt ga gb) (h : KT w B ga gb k ph L v) (hB : B ≤ w.heap.size) (hgt : v.ownBlock ≠ some gt)
    (hBa : B ≤ ga) (hBb : B ≤ gb) (hsep : ∀ b, a = some b → 0 < m → b.block ≠ ga ∧ b.block ≠ gb ∧ b.block < B) (h47 : m ≤ 10000000) (hL : L.length ≤ 10000000) (htab : Tabs w) :
    Calls Tryd.prog 19 #[.pointer (some ⟨gt, 0, none⟩), .agg #[.int .i64 1, .int .i64 N, .slice a m c]] w (StK B gt ga gb ph L v m w) := by
  obtain ⟨p1, p2, p3, p4, p5, p6⟩ := h.apart
  obtain ⟨⟨cd, hcd⟩, d0, d1, d2, d3⟩ := h.doc
  rw [hph] at d2
  obtain ⟨sa, ss, hsp⟩ := h.sp
  have g1 : ga ≠ gt := blk_ne hsp.2.2.2.2 (show Blk w gt 44 _ from ht) (by decide)
  have g2 : gb ≠ gt := blk_ne hcd (show Blk w gt 44 _ from ht) (by decide)
  have hgtl : gt < w.heap.size := Blk.lt ht
  have HLM := Lib.hid hb.1.1
  have HLB := Lib.hid hb.1.2.2.1
  obtain ⟨W1, hW1⟩ : ∃ W1, w.alloc (.cells #[.int .i64 1, .int .i64 N, .slice a m c] 49) = W1 := ⟨_, rfl⟩
  have hb1 : Below w.heap.size w W1 := hW1 ▸ (Below.refl w.heap.size w).alloc (Nat.le_refl _) _
  have hs1 : W1.heap.size = w.heap.size + 1 := by rw [← hW1]; simp
  have hbox : Blk W1 w.heap.size 49 [.int .i64 1, .int .i64 N, .slice a m c] := by rw [← hW1]; exact Blk.new w 49 _
  have hKT1 := h.fr (Fr.below (F := fun _ => False) hb1) (fun x => x) (fun x => x) (fun _ _ x => x)
  have KC := Lib.hid (show ∀ w', Fr W1 w' (fun j => j = ga) → Blk w' gt 44 [.pointer (some ⟨ga, 0, none⟩), .pointer (some ⟨gb, 0, none⟩)] ∧ Blk w' gb 72 cd ∧ Blk w' w.heap.size 49 [.int .i64 1, .int .i64 N, .slice a m c] from fun w' hf =>
    ⟨blk_fr (Blk.below ht hb1 hgtl) hf (fun e => g1 e.symm), blk_fr (Blk.below hcd hb1 p5) hf (fun e => p1 e.symm), blk_fr hbox hf (fun e => by omega)⟩)
  have hcell : ∀ w', Blk w' gb 72 cd → w'.cell? ⟨gb, 2, none⟩ = some (.bool true) ∧ w'.cell? ⟨gb, 1, none⟩ = some v := fun w' hq => by
    rw [hcd.cell] at d1 d2
    exact ⟨(hq.cell 2).trans d2, (hq.cell 1).trans d1⟩
  have HCELL := Lib.hid hcell
  have hc1 : W1.cell? ⟨w.heap.size, 2, none⟩ = some (.slice a m c) := hbox.cell 2
  have hc0 : W1.cell? ⟨w.heap.size, 0, none⟩ = some (.int .i64 1) := hbox.cell 0
  have HO := Lib.hid (own_any a m c l W1 (hb.below hb1) (by omega))
  have HBI := Lib.hid hb
  have HFR1 := Lib.hid (show ∀ F, Fr w W1 F from fun F => Fr.below hb1)
  have HSEP := Lib.hid hsep
  have HKT := Lib.hid h
  have HT := Lib.hid ht
  have HBEL := Lib.hid hb1
  obtain ⟨b0, rfl⟩ : ∃ b0, ph = some b0 := by cases ph with | none => cases hph | some b => exact ⟨b, rfl⟩
  have HW := Lib.hid (show ∀ w' G cap, Below w.heap.size w w' → w.heap.size ≤ G → BIn w' (some ⟨G, 0, none⟩) m cap l → Calls Tryd.prog 23 #[.pointer (some ⟨ga, 0, none⟩), .slice (some ⟨G, 0, none⟩) m cap] w' (fun e w'' => e = .returned (.int .i64 32) ∧ w'.grownBy w'' (some ga) ∧ w' = w'') from fun w' G cap hb' hG hin =>
    (write_late ga k _ _ _ _ w' (sp_fr h.2.2.2.2.1 (Fr.below hb' : Fr w w' (fun _ => False)) (fun x => x))).mono fun e w'' q => ⟨q.1, q.2 ▸ grown_refl _ _, q.2⟩)
  clear hb ht h hb1 hbox hsep hKT1 hcd d0 d1 d2 d3 hsp hcell htab
  unfold StK
  go_enter Tryd.func19, Tryd.ntmps19
  go_upto_region 3 with (fail)
  try rw [hW1]
  clear hW1
  go_wp2_with fail
  refine HO.out.mono ?_
  rintro e w2 ⟨G, cap, rfl, ho2, hb2⟩
  rw [HLM.out] at ho2 ⊢
  have hG := ho2.lt G rfl
  have HO2 := Lib.hid ho2
  have HF2 := Lib.hid (show Fr W1 w2 (fun j => j = ga) from Fr.below hb2)
  have HB2X := Lib.hid hb2
  have hbe2 : Below w.heap.size w w2 := HBEL.out.trans (hb2.mono HBEL.out.size)
  have HW2 := Lib.hid (HW.out w2 G cap hbe2 (by omega) (ownM_in ho2 HLB.out HLM.out (by omega)))
  have kc0 : w2.cell? ⟨gt, 0, none⟩ = some (.pointer (some ⟨ga, 0, none⟩)) := (KC.out w2 HF2.out).1.cell 0
  clear ho2 hb2 hbe2 HW HO
  go_wp2_with fail
  refine HW2.out.mono ?_
  rintro e w3 ⟨rfl, hg3, hsame⟩
  have hf3 : Fr w2 w3 (fun j => j = ga) := Fr.grown hg3 (fun j e _ => by injection e with e; exact e.symm)
  have hsz3 : w2.heap.size ≤ w3.heap.size := hg3.size
  have HF3 := Lib.hid (HF2.out.trans hf3 (fun j _ e => e))
  have HO3 := Lib.hid (own_fr HO2.out hf3 (fun j e q => by injection e with e; subst e; change G = ga at q; omega))
  have HFX := Lib.hid (show Fr w w3 (fun _ => False) from by subst hsame; exact ((HFR1.out (fun _ => False)).trans (Fr.below (show Below W1.heap.size W1 w2 from HB2X.out)) (fun _ _ e => e)))
  clear hsame hg3 hf3 HW2 HO2 HF2 kc0
  have kc2 : w3.cell? ⟨w.heap.size, 2, none⟩ = some (.slice a m c) := (KC.out w3 HF3.out).2.2.cell 2
  have HST := Lib.hid (still_any W1.heap.size a m c G cap l w3 (bin_fr HBI.out ((HFR1.out (fun j => j = ga)).trans HF3.out (fun j _ e => e)) (fun b e h0 => (HSEP.out b e h0).1)) (by omega) HO3.out)
  go_wp2_with fail
  refine HST.out.mono ?_
  rintro e w5 ⟨rfl, hb5⟩
  obtain ⟨cs0, hcs0, hcl0⟩ := own_blk (own_below HO3.out hb5) (by omega)
  have HCS := Lib.hid (show Blk w5 G 5 cs0 ∧ m ≤ cs0.length from ⟨hcs0, by omega⟩)
  have hsz5 : w3.heap.size ≤ w5.heap.size := hb5.size
  have HF5 := Lib.hid (show Fr w3 w5 (fun j => j = G) from Fr.below hb5)
  clear hcs0 hcl0 hb5 HST kc2
  go_wp2_with fail
  go_loopw [8] (fun u wr => ∃ i : Nat, i ≤ m ∧ u = .int .i64 i ∧ (∃ cs, Blk wr G 5 cs ∧ m ≤ cs.length) ∧ Fr w3 wr (fun j => j = G)) (fun u _ => m - (intOf u).toNat)
  case atStart => exact ⟨0, by omega, rfl, ⟨cs0, HCS.out.1, HCS.out.2⟩, HF5.out⟩
  case round =>
    obtain ⟨i, hi, rfl, ⟨cs, hcs, hcl⟩, hgr⟩ := hrel
    by_cases him : i < m
    · have hii : (i : Int) < (m : Int) := by omega
      obtain ⟨y, hc⟩ : ∃ y, wr.cell? ⟨G, i, none⟩ = some y := ⟨_, (hcs.cell i).trans (List.getElem?_eq_getElem (by omega))⟩
      have hf := hcs.free i
      have HK2 := Lib.hid (hcs.set i (.int .u8 99))
      have HG2 := Lib.hid (hgr.trans (Fr.grown (F := fun j => j = G) (grown_setCell wr ⟨G, i, none⟩ (.int .u8 99)) (fun j e _ => by injection e with e; exact e.symm)) (fun j _ e => e))
      have HCL := Lib.hid (show m ≤ (cs.set i (.int .u8 99)).length by rw [List.length_set]; exact hcl)
      clear hcs hcl hgr
      go_wp2_with fail
      go_roundw
      case rel => exact ⟨i + 1, by omega, by go_num, ⟨_, HK2.out, HCL.out⟩, HG2.out⟩
      case measure => simp [intOf]; omega
    · obtain rfl : i = m := by omega
      have HGR := Lib.hid hgr
      have hszr : w3.heap.size ≤ wr.heap.size := hgr.2.2.2.1
      clear hcs hcl hgr
      have HFW := Lib.hid (show Fr W1 wr (fun j => j = ga) from HF3.out.trans HGR.out (fun j hj e => by subst e; omega))
      have HFA := Lib.hid (show Fr w wr (fun j => j = ga) from (HFR1.out _).trans HFW.out (fun j _ e => e))
      obtain ⟨K0, K1, K2⟩ := KC.out wr HFW.out
      have kc1 : wr.cell? ⟨gt, 1, none⟩ = some (.pointer (some ⟨gb, 0, none⟩)) := K0.cell 1
      obtain ⟨ko, ki⟩ := HCELL.out wr K1
      have HK0 := Lib.hid K0
      have HK1 := Lib.hid K1
      have HK2 := Lib.hid K2
      clear K0 K1 K2
      have HKN := Lib.hid (HKT.out.fr (HFX.out.trans HGR.out (fun j hj e => by subst e; omega)) (fun x => x) (fun x => x) (fun _ _ x => x))
      have HTN := Lib.hid (show TwK wr gt ga gb from HK0.out)
      go_wp2_with fail
      go_ret
      exact ⟨rfl, ga, gb, k, some b0, L, v, HTN.out, HKN.out, HFA.out.mono (fun j _ e => .inr (.inl e)), hBa, hBb, by omega, by omega⟩
set_option maxRecDepth 100000 in
set_option maxHeartbeats 3200000 in
theorem step1_fresh (gt ga gb B k : Nat) (ph : Option Nat) (L : List Nat) (v : Value) (N : Int) (a : Option Addr) (m c : Nat) (l : List Nat) (w : World) (hph : ph.isSome = false) (hb : BIn w a m c l) (ht : TwK w gt ga gb) (h : KT w B ga gb k ph L v) (hB : B ≤ w.heap.size) (hgt : v.ownBlock ≠ some gt)
    (hBa : B ≤ ga) (hBb : B ≤ gb) (hsep : ∀ b, a = some b → 0 < m → b.block ≠ ga ∧ b.block ≠ gb ∧ b.block < B) (h47 : m ≤ 10000000) (hL : L.length ≤ 10000000) (htab : Tabs w) :
    Calls Tryd.prog 19 #[.pointer (some ⟨gt, 0, none⟩), .agg #[.int .i64 1, .int .i64 N, .slice a m c]] w (StK B gt ga gb ph L v m w) := by
  obtain ⟨p1, p2, p3, p4, p5, p6⟩ := h.apart
  obtain ⟨⟨cd, hcd⟩, d0, d1, d2, d3⟩ := h.doc
  rw [hph] at d2
  obtain ⟨sa, ss, hsp⟩ := h.sp
  have g1 : ga ≠ gt := blk_ne hsp.2.2.2.2 (show Blk w gt 44 _ from ht) (by decide)
  have g2 : gb ≠ gt := blk_ne hcd (show Blk w gt 44 _ from ht) (by decide)
  have hgtl : gt < w.heap.size := Blk.lt ht
  have HLM := Lib.hid hb.1.1
  have HLB := Lib.hid hb.1.2.2.1
  obtain ⟨W1, hW1⟩ : ∃ W1, w.alloc (.cells #[.int .i64 1, .int .i64 N, .slice a m c] 49) = W1 := ⟨_, rfl⟩
  have hb1 : Below w.heap.size w W1 := hW1 ▸ (Below.refl w.heap.size w).alloc (Nat.le_refl _) _
  have hs1 : W1.heap.size = w.heap.size + 1 := by rw [← hW1]; simp
  have hbox : Blk W1 w.heap.size 49 [.int .i64 1, .int .i64 N, .slice a m c] := by rw [← hW1]; exact Blk.new w 49 _
  have hKT1 := h.fr (Fr.below (F := fun _ => False) hb1) (fun x => x) (fun x => x) (fun _ _ x => x)
  have KC := Lib.hid (show ∀ w', Fr W1 w' (fun j => j = ga) → Blk w' gt 44 [.pointer (some ⟨ga, 0, none⟩), .pointer (some ⟨gb, 0, none⟩)] ∧ Blk w' gb 72 cd ∧ Blk w' w.heap.size 49 [.int .i64 1, .int .i64 N, .slice a m c] from fun w' hf =>
    ⟨blk_fr (Blk.below ht hb1 hgtl) hf (fun e => g1 e.symm), blk_fr (Blk.below hcd hb1 p5) hf (fun e => p1 e.symm), blk_fr hbox hf (fun e => by omega)⟩)
  have hcell : ∀ w', Blk w' gb 72 cd → w'.cell? ⟨gb, 2, none⟩ = some (.bool false) ∧ w'.cell? ⟨gb, 1, none⟩ = some v := fun w' hq => by
    rw [hcd.cell] at d1 d2
    exact ⟨(hq.cell 2).trans d2, (hq.cell 1).trans d1⟩
  have HCELL := Lib.hid hcell
  have hc1 : W1.cell? ⟨w.heap.size, 2, none⟩ = some (.slice a m c) := hbox.cell 2
  have hc0 : W1.cell? ⟨w.heap.size, 0, none⟩ = some (.int .i64 1) := hbox.cell 0
  have HO := Lib.hid (own_any a m c l W1 (hb.below hb1) (by omega))
  have HBI := Lib.hid hb
  have HFR1 := Lib.hid (show ∀ F, Fr w W1 F from fun F => Fr.below hb1)
  have HSEP := Lib.hid hsep
  have HKT := Lib.hid h
  have HT := Lib.hid ht
  have HBEL := Lib.hid hb1
  obtain rfl : ph = none := by cases ph with | none => rfl | some b => cases hph
  have hk := h.1
  have hsp0 := h.2.2.2.2.1
  have HCD := Lib.hid (show cd = rsV (.int .i64 (k : Nat)) v (.bool false) (.int .i64 0) (zeros 25) (.int .i64 0) from by
    have q := h.2.2.2.2.2
    unfold Blk at q hcd
    rw [hcd] at q
    simp only [Option.some.injEq, Obj.cells.injEq] at q
    have := congrArg Array.toList q.1
    simpa using this)
  have HW := Lib.hid (show ∀ w' G cap, Below w.heap.size w w' → w.heap.size ≤ G → BIn w' (some ⟨G, 0, none⟩) m cap l → Calls Tryd.prog 23 #[.pointer (some ⟨ga, 0, none⟩), .slice (some ⟨G, 0, none⟩) m cap] w' (fun e w'' => e = .returned (.int .i64 0) ∧ SpAt w'' ga k (absL (rateK k) (zeros 25, 0) (L ++ l)).2 false (sizeK k) (absL (rateK k) (zeros 25, 0) (L ++ l)).1 ∧ w'.grownBy w'' (some ga)) from fun w' G cap hb' hG hin => by
    have := write_any ga k _ (sizeK k) _ (some ⟨G, 0, none⟩) m cap l w' (sp_fr hsp0 (Fr.below hb' : Fr w w' (fun _ => False)) (fun x => x)) hin (fun b e _ => by injection e with e; subst e; show G ≠ ga; omega) (htab.below hb')
    unfold WroteIs at this
    have e : absL (rateK k) (zeros 25, 0) (L ++ l) = absL (rateK k) ((absL (rateK k) (zeros 25, 0) L).1, (absL (rateK k) (zeros 25, 0) L).2) l := by unfold absL; rw [List.foldl_append]
    rw [e]
    exact this)
  clear hsp0
  clear hb ht h hb1 hbox hsep hKT1 hcd d0 d1 d2 d3 hsp hcell htab
  unfold StK
  go_enter Tryd.func19, Tryd.ntmps19
  go_upto_region 3 with (fail)
  try rw [hW1]
  clear hW1
  go_wp2_with fail
  refine HO.out.mono ?_
  rintro e w2 ⟨G, cap, rfl, ho2, hb2⟩
  rw [HLM.out] at ho2 ⊢
  have hG := ho2.lt G rfl
  have HO2 := Lib.hid ho2
  have HF2 := Lib.hid (show Fr W1 w2 (fun j => j = ga) from Fr.below hb2)
  have hbe2 : Below w.heap.size w w2 := HBEL.out.trans (hb2.mono HBEL.out.size)
  have HW2 := Lib.hid (HW.out w2 G cap hbe2 (by omega) (ownM_in ho2 HLB.out HLM.out (by omega)))
  have kc0 : w2.cell? ⟨gt, 0, none⟩ = some (.pointer (some ⟨ga, 0, none⟩)) := (KC.out w2 HF2.out).1.cell 0
  clear ho2 hb2 hbe2 HW HO
  go_wp2_with fail
  refine HW2.out.mono ?_
  rintro e w3 ⟨rfl, hsp3, hg3⟩
  have HS3 := Lib.hid hsp3
  have hf3 : Fr w2 w3 (fun j => j = ga) := Fr.grown hg3 (fun j e _ => by injection e with e; exact e.symm)
  have hsz3 : w2.heap.size ≤ w3.heap.size := hg3.size
  have HF3 := Lib.hid (HF2.out.trans hf3 (fun j _ e => e))
  have HO3 := Lib.hid (own_fr HO2.out hf3 (fun j e q => by injection e with e; subst e; change G = ga at q; omega))
  clear hsp3 hg3 hf3 HW2 HO2 HF2 kc0
  have kc2 : w3.cell? ⟨w.heap.size, 2, none⟩ = some (.slice a m c) := (KC.out w3 HF3.out).2.2.cell 2
  have HST := Lib.hid (still_any W1.heap.size a m c G cap l w3 (bin_fr HBI.out ((HFR1.out (fun j => j = ga)).trans HF3.out (fun j _ e => e)) (fun b e h0 => (HSEP.out b e h0).1)) (by omega) HO3.out)
  go_wp2_with fail
  refine HST.out.mono ?_
  rintro e w5 ⟨rfl, hb5⟩
  obtain ⟨cs0, hcs0, hcl0⟩ := own_blk (own_below HO3.out hb5) (by omega)
  have HCS := Lib.hid (show Blk w5 G 5 cs0 ∧ m ≤ cs0.length from ⟨hcs0, by omega⟩)
  have hsz5 : w3.heap.size ≤ w5.heap.size := hb5.size
  have HF5 := Lib.hid (show Fr w3 w5 (fun j => j = G) from Fr.below hb5)
  clear hcs0 hcl0 hb5 HST kc2
  go_wp2_with fail
  go_loopw [8] (fun u wr => ∃ i : Nat, i ≤ m ∧ u = .int .i64 i ∧ (∃ cs, Blk wr G 5 cs ∧ m ≤ cs.length) ∧ Fr w3 wr (fun j => j = G)) (fun u _ => m - (intOf u).toNat)
  case atStart => exact ⟨0, by omega, rfl, ⟨cs0, HCS.out.1, HCS.out.2⟩, HF5.out⟩
  case round =>
    obtain ⟨i, hi, rfl, ⟨cs, hcs, hcl⟩, hgr⟩ := hrel
    by_cases him : i < m
    · have hii : (i : Int) < (m : Int) := by omega
      obtain ⟨y, hc⟩ : ∃ y, wr.cell? ⟨G, i, none⟩ = some y := ⟨_, (hcs.cell i).trans (List.getElem?_eq_getElem (by omega))⟩
      have hf := hcs.free i
      have HK2 := Lib.hid (hcs.set i (.int .u8 99))
      have HG2 := Lib.hid (hgr.trans (Fr.grown (F := fun j => j = G) (grown_setCell wr ⟨G, i, none⟩ (.int .u8 99)) (fun j e _ => by injection e with e; exact e.symm)) (fun j _ e => e))
      have HCL := Lib.hid (show m ≤ (cs.set i (.int .u8 99)).length by rw [List.length_set]; exact hcl)
      clear hcs hcl hgr
      go_wp2_with fail
      go_roundw
      case rel => exact ⟨i + 1, by omega, by go_num, ⟨_, HK2.out, HCL.out⟩, HG2.out⟩
      case measure => simp [intOf]; omega
    · obtain rfl : i = m := by omega
      have HGR := Lib.hid hgr
      have hszr : w3.heap.size ≤ wr.heap.size := hgr.2.2.2.1
      clear hcs hcl hgr
      have HFW := Lib.hid (show Fr W1 wr (fun j => j = ga) from HF3.out.trans HGR.out (fun j hj e => by subst e; omega))
      have HFA := Lib.hid (show Fr w wr (fun j => j = ga) from (HFR1.out _).trans HFW.out (fun j _ e => e))
      obtain ⟨K0, K1, K2⟩ := KC.out wr HFW.out
      have kc1 : wr.cell? ⟨gt, 1, none⟩ = some (.pointer (some ⟨gb, 0, none⟩)) := K0.cell 1
      obtain ⟨ko, ki⟩ := HCELL.out wr K1
      have HK0 := Lib.hid K0
      have HK1 := Lib.hid K1
      have HK2 := Lib.hid K2
      clear K0 K1 K2
      have HSPN := Lib.hid (sp_fr HS3.out HGR.out (by omega))
      have HOV := Lib.hid (own_fr HKT.out.2.2.1 HFA.out (fun j hj e => p2 (e ▸ hj)))
      have HBN := Lib.hid (bin_fr HBI.out HFA.out (fun b e h0 => (HSEP.out b e h0).1))
      rw [HCD.out] at HK1
      have hszw : w.heap.size ≤ wr.heap.size := HFA.out.2.2.2.1
      have hkL := HKT.out.2.1
      have HLL := Lib.hid (show ∀ x ∈ L ++ l, x < 256 from fun x hx => (List.mem_append.1 hx).elim (HKT.out.2.1 x) (HLB.out x))
      have hk' := HKT.out.1
      have hsz' := HKT.out.2.2.2.1
      clear hkL
      go_upto_region 12 with (fail)
      refine wp_region_G (fun w_ => Blk w_ gt 44 [.pointer (some ⟨ga, 0, none⟩), .pointer (some ⟨gb, 0, none⟩)] ∧ Blk w_ gb 72 (rsV (.int .i64 (k : Nat)) v (.bool false) (.int .i64 0) (zeros 25) (.int .i64 0)) ∧ Blk w_ w.heap.size 49 [.int .i64 1, .int .i64 N, .slice a i c]) 16 (by kernel_rfl) ⟨HK0.out.drew, HK1.out.drew, HK2.out.drew⟩ ?_
      refine wpAnyG_take (oi := _) (v := _) (fun _ _ hS_ hb_ => ⟨hS_.1.gr hb_, hS_.2.1.gr hb_, hS_.2.2.gr hb_⟩) (i := 0) rfl (by kernel_rfl) (fun _ _ _ h => h) (pureG (by rfl) (by intro w; go_simp; first | done | with_reducible rfl)) ?_
      try simp only [Act.put, List.getElem_toArray, List.getElem_cons_succ, List.getElem_cons_zero, List.setIfInBounds_toArray, List.set_cons_zero, List.set_cons_succ]
      refine wpAnyG_take (oi := _) (v := _) (fun _ _ hS_ hb_ => ⟨hS_.1.gr hb_, hS_.2.1.gr hb_, hS_.2.2.gr hb_⟩) (i := 1) rfl (by kernel_rfl) (fun _ _ _ h => h) (pureG (by rfl) (by intro w; go_simp; first | done | with_reducible rfl)) ?_
      try simp only [Act.put, List.getElem_toArray, List.getElem_cons_succ, List.getElem_cons_zero, List.setIfInBounds_toArray, List.set_cons_zero, List.set_cons_succ]
      refine wpAnyG_take (oi := _) (v := _) (fun _ _ hS_ hb_ => ⟨hS_.1.gr hb_, hS_.2.1.gr hb_, hS_.2.2.gr hb_⟩) (i := 2) rfl (by kernel_rfl) (fun _ _ _ h => h) (pureG (by rfl) (by intro w; go_simp; first | done | with_reducible rfl)) ?_
      try simp only [Act.put, List.getElem_toArray, List.getElem_cons_succ, List.getElem_cons_zero, List.setIfInBounds_toArray, List.set_cons_zero, List.set_cons_succ]
      refine wpAnyG_take (oi := _) (v := _) (fun _ _ hS_ hb_ => ⟨hS_.1.gr hb_, hS_.2.1.gr hb_, hS_.2.2.gr hb_⟩) (i := 3) rfl (by kernel_rfl) (fun _ _ _ h => h) (worldG (by rfl) (by intro w_ hS_; have q1 : w_.cell? ⟨gt, 1, none⟩ = some (.pointer (some ⟨gb, 0, none⟩)) := hS_.1.cell 1; go_simp; first | done | with_reducible rfl)) ?_
      try simp only [Act.put, List.getElem_toArray, List.getElem_cons_succ, List.getElem_cons_zero, List.setIfInBounds_toArray, List.set_cons_zero, List.set_cons_succ]
      refine wpAnyG_take (oi := _) (v := _) (fun _ _ hS_ hb_ => ⟨hS_.1.gr hb_, hS_.2.1.gr hb_, hS_.2.2.gr hb_⟩) (i := 4) rfl (by kernel_rfl) (fun _ _ _ h => h) (pureG (by rfl) (by intro w; go_simp; first | done | with_reducible rfl)) ?_
      try simp only [Act.put, List.getElem_toArray, List.getElem_cons_succ, List.getElem_cons_zero, List.setIfInBounds_toArray, List.set_cons_zero, List.set_cons_succ]
      refine wpAnyG_take (oi := _) (v := _) (fun _ _ hS_ hb_ => ⟨hS_.1.gr hb_, hS_.2.1.gr hb_, hS_.2.2.gr hb_⟩) (i := 5) rfl (by kernel_rfl) (fun _ _ _ h => h) (pureG (by rfl) (by intro w; go_simp; first | done | with_reducible rfl)) ?_
      try simp only [Act.put, List.getElem_toArray, List.getElem_cons_succ, List.getElem_cons_zero, List.setIfInBounds_toArray, List.set_cons_zero, List.set_cons_succ]
      refine wpAnyG_take (oi := _) (v := _) (fun _ _ hS_ hb_ => ⟨hS_.1.gr hb_, hS_.2.1.gr hb_, hS_.2.2.gr hb_⟩) (i := 6) rfl (by kernel_rfl) (fun _ _ _ h => h) (pureG (by rfl) (by intro w; go_simp; first | done | with_reducible rfl)) ?_
      try simp only [Act.put, List.getElem_toArray, List.getElem_cons_succ, List.getElem_cons_zero, List.setIfInBounds_toArray, List.set_cons_zero, List.set_cons_succ]
      refine wpAnyG_take (oi := _) (v := _) (fun _ _ hS_ hb_ => ⟨hS_.1.gr hb_, hS_.2.1.gr hb_, hS_.2.2.gr hb_⟩) (i := 7) rfl (by kernel_rfl) (fun _ _ _ h => h) (worldG (by rfl) (by intro w_ hS_; have q1 : w_.cell? ⟨gt, 1, none⟩ = some (.pointer (some ⟨gb, 0, none⟩)) := hS_.1.cell 1; go_simp; first | done | with_reducible rfl)) ?_
      try simp only [Act.put, List.getElem_toArray, List.getElem_cons_succ, List.getElem_cons_zero, List.setIfInBounds_toArray, List.set_cons_zero, List.set_cons_succ]
      refine wpAnyG_take (oi := _) (v := _) (fun _ _ hS_ hb_ => ⟨hS_.1.gr hb_, hS_.2.1.gr hb_, hS_.2.2.gr hb_⟩) (i := 8) rfl (by kernel_rfl) (fun _ _ _ h => h) (pureG (by rfl) (by intro w; go_simp; first | done | with_reducible rfl)) ?_
      try simp only [Act.put, List.getElem_toArray, List.getElem_cons_succ, List.getElem_cons_zero, List.setIfInBounds_toArray, List.set_cons_zero, List.set_cons_succ]
      refine wpAnyG_take (oi := _) (v := _) (fun _ _ hS_ hb_ => ⟨hS_.1.gr hb_, hS_.2.1.gr hb_, hS_.2.2.gr hb_⟩) (i := 9) rfl (by kernel_rfl) (fun _ _ _ h => h) (pureG (by rfl) (by intro w; go_simp; first | done | with_reducible rfl)) ?_
      try simp only [Act.put, List.getElem_toArray, List.getElem_cons_succ, List.getElem_cons_zero, List.setIfInBounds_toArray, List.set_cons_zero, List.set_cons_succ]
      refine wpAnyG_take (oi := _) (v := _) (fun _ _ hS_ hb_ => ⟨hS_.1.gr hb_, hS_.2.1.gr hb_, hS_.2.2.gr hb_⟩) (i := 10) rfl (by kernel_rfl) (fun _ _ _ h => h) (worldG (by rfl) (by intro w_ hS_; have q1 : w_.cell? ⟨gb, 1, none⟩ = some v := rs_in hS_.2.1; go_simp; first | done | with_reducible rfl)) ?_
      try simp only [Act.put, List.getElem_toArray, List.getElem_cons_succ, List.getElem_cons_zero, List.setIfInBounds_toArray, List.set_cons_zero, List.set_cons_succ]
      refine wpAnyG_take (oi := _) (v := _) (fun _ _ hS_ hb_ => ⟨hS_.1.gr hb_, hS_.2.1.gr hb_, hS_.2.2.gr hb_⟩) (i := 11) rfl (by kernel_rfl) (fun _ _ _ h => h) (pureG (by rfl) (by intro w; go_simp; first | done | with_reducible rfl)) ?_
      try simp only [Act.put, List.getElem_toArray, List.getElem_cons_succ, List.getElem_cons_zero, List.setIfInBounds_toArray, List.set_cons_zero, List.set_cons_succ]
      refine wpAnyG_take (oi := _) (v := _) (fun _ _ hS_ hb_ => ⟨hS_.1.gr hb_, hS_.2.1.gr hb_, hS_.2.2.gr hb_⟩) (i := 12) rfl (by kernel_rfl) (fun _ _ _ h => h) (worldG (by rfl) (by intro w_ hS_; have q1 : w_.cell? ⟨w.heap.size, 2, none⟩ = some (.slice a i c) := hS_.2.2.cell 2; go_simp; first | done | with_reducible rfl)) ?_
      try simp only [Act.put, List.getElem_toArray, List.getElem_cons_succ, List.getElem_cons_zero, List.setIfInBounds_toArray, List.set_cons_zero, List.set_cons_succ]
      refine wpAnyG_only (i := 13) (by kernel_rfl) (fun Wa hGa hSa => ?_)
      have hoA : Wa.ownsRow B 5 1 v L.length (bytesV L) := own_below (show wr.drew.ownsRow B 5 1 v L.length (bytesV L) from HOV.out) hGa
      have hbA : BIn Wa a i c l := (show BIn wr.drew a i c l from HBN.out).below hGa
      have hsA : wr.heap.size ≤ Wa.heap.size := hGa.size
      refine wpOp_appendA rfl (by rfl) (.tmp 60) (.tmp 62) rfl B v L.length L rfl hoA a i c l rfl hbA (by omega) (by omega) (fun v' Wc ho' hg' => ?_)
      obtain ⟨a2, cp2, rfl, _, _⟩ := own_in ho' HLL.out (by omega)
      refine ⟨.inr ⟨Blk.grown hSa.1 hg' (fun e => hgt e.symm), Blk.grown hSa.2.1 hg' (fun e => p3 e.symm), Blk.grown hSa.2.2 hg' (fun e => own_ne_t hoA hSa.2.2 (by decide) e)⟩, ?_⟩
      try simp only [Act.put, List.getElem_toArray, List.getElem_cons_succ, List.getElem_cons_zero, List.setIfInBounds_toArray, List.set_cons_zero, List.set_cons_succ]
      refine wpAnyG_only (i := 14) (by kernel_rfl) (fun Wd hGd hSd => ?_)
      refine wpOp_run rfl (by rfl) (v := .pointer (some ⟨gb, 0, none⟩)) (W2 := Wd) (by go_simp; first | done | with_reducible rfl) ⟨.inr hSd, ?_⟩
      try simp only [Act.put, List.getElem_toArray, List.getElem_cons_succ, List.getElem_cons_zero, List.setIfInBounds_toArray, List.set_cons_zero, List.set_cons_succ]
      refine wpAnyG_only (i := 15) (by kernel_rfl) (fun We hGe hSe => ?_)
      refine wpOp_run rfl (by rfl) (v := .pointer (some ⟨gb, 1, none⟩)) (W2 := We) (by go_simp; first | done | with_reducible rfl) ⟨.inr hSe, ?_⟩
      try simp only [Act.put, List.getElem_toArray, List.getElem_cons_succ, List.getElem_cons_zero, List.setIfInBounds_toArray, List.set_cons_zero, List.set_cons_succ]
      refine wpAnyG_only (i := 16) (by kernel_rfl) (fun Wf hGf hSf => ?_)
      have k1 : Wf.cell? ⟨gb, 1, none⟩ = some v := rs_in hSf.2.1
      have k2 := hSf.2.1.free 1
      refine wpOp_skip rfl (by rfl) (W2 := Wf.setCell ⟨gb, 1, none⟩ (.slice a2 (L.length + i) cp2)) (by go_simp; first | done | with_reducible rfl) ⟨.inl ⟨rfl, by kernel_rfl⟩, wpAnyG_done (by kernel_rfl) (fun W3 h3 => ?_) _⟩
      try simp only [Act.put, List.getElem_toArray, List.getElem_cons_succ, List.getElem_cons_zero, List.setIfInBounds_toArray, List.set_cons_zero, List.set_cons_succ]
      have hx1 : Fr wr Wa (fun j => v.ownBlock = some j ∨ j = gb) := (show Fr wr wr.drew _ from (Fr.refl _ _).drew).trans (Fr.below hGa) (fun j _ e => e)
      have hx2 : Fr Wa Wc (fun j => v.ownBlock = some j ∨ j = gb) := Fr.grown hg' (fun j e _ => .inl e)
      have hx3 : Fr Wc Wf (fun j => v.ownBlock = some j ∨ j = gb) := ((Fr.below hGd).trans (Fr.below hGe) (fun j _ e => e)).trans (Fr.below hGf) (fun j _ e => e)
      have hx4 : Fr Wf W3 (fun j => v.ownBlock = some j ∨ j = gb) := (Fr.grown (grown_setCell Wf ⟨gb, 1, none⟩ (.slice a2 (L.length + i) cp2)) (fun j e _ => .inr (by injection e with e; exact e.symm))).trans (Fr.below h3) (fun j _ e => e)
      have hx5 := ((hx1.trans hx2 (fun j _ e => e)).trans hx3 (fun j _ e => e)).trans hx4 (fun j _ e => e)
      have HFN := Lib.hid (show Fr w W3 (fun j => j = gt ∨ j = ga ∨ j = gb ∨ v.ownBlock = some j) from (HFA.out.mono (fun j _ e => .inr (.inl e))).trans hx5 (fun j _ e => e.elim (fun q => .inr (.inr (.inr q))) (fun q => .inr (.inr (.inl q)))))
      have hset := (hSf.2.1).set 1 (.slice a2 (L.length + i) cp2)
      have HDN := Lib.hid (show Blk W3 gb 72 (rsV (.int .i64 (k : Nat)) (.slice a2 (L.length + i) cp2) (.bool false) (.int .i64 0) (zeros 25) (.int .i64 0)) from Blk.gr hset h3)
      have hne : (Value.slice a2 (L.length + i) cp2).ownBlock ≠ some gb := (own_ne_t ho' (Blk.grown hSa.2.1 hg' (fun e => p3 e.symm)) (by decide)).symm
      have hoF : Wf.ownsRow B 5 1 (.slice a2 (L.length + i) cp2) (L.length + i) (bytesV (L ++ l)) := own_below (own_below (own_below ho' hGd) hGe) hGf
      have HON := Lib.hid (own_below (hoF.kept (grown_setCell Wf ⟨gb, 1, none⟩ (.slice a2 (L.length + i) cp2)) (.inr hne)) h3)
      have HSN := Lib.hid (sp_fr HSPN.out hx5 (by rintro (q | q); exact p2 q; exact p1 q))
      have HTN := Lib.hid (show TwK W3 gt ga gb from Blk.gr ((hSf.1).of (by rw [heap_setCell_other Wf ⟨gb, 1, none⟩ gt _ (fun e => g2 e.symm)])) h3)
      clear hx1 hx2 hx3 hx4 hx5 hset hne hoF k1 k2 ho' hg' hGa hGd hGe hGf hSa hSd hSe hSf h3 hoA hbA
      have hlen : (L ++ l).length = L.length + i := by rw [List.length_append, HLM.out]
      go_wp2_with fail
      go_ret
      exact ⟨rfl, ga, gb, k, none, L ++ l, _, HTN.out, ⟨hk', HLL.out, by rw [hlen]; exact HON.out, hsz', HSN.out, HDN.out⟩, HFN.out, hBa, hBb, by omega, by omega⟩
end Go.Proofs.YtidnlaibfkjgpaaDoor
