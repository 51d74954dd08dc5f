/- For KecPlays: steps 3 and 4 (a copy), 5 (a new one) (funcs 18, 19). Condition: the table of constants; sizes. -/
import Derived.Test.YtidnlaibfkjgpaaDoorKSt
import Derived.Lib.SlBytesConst
namespace Go.Proofs.YtidnlaibfkjgpaaDoor
open Go.RowKit
set_option linter.unusedVariables false
set_option linter.unusedSimpArgs false
theorem KT.copy {w : World} {B ga gb k : Nat} {ph : Option Nat} {L : List Nat} {v : Value} (h : KT w B ga gb k ph L v) : ∃ a gv lf s, SpAt w ga k a gv lf s ∧ (lf = -1 ∨ (0 ≤ lf ∧ lf ≤ 64)) ∧ ∀ w' g', SpAt w' g' k a gv lf s → KT w' B ga gb k ph L v → KT w' B g' gb k ph L v := by
  have hs := sizeK_cases h.1
  obtain ⟨q1, q2, q3, q4, h⟩ := h
  cases ph with
  | none => exact ⟨_, _, _, _, h.1, hs, fun w' g' hg hk => ⟨hk.1, hk.2.1, hk.2.2.1, hk.2.2.2.1, hg, hk.2.2.2.2.2⟩⟩
  | some b =>
    refine ⟨_, _, _, _, h.1, ?_, fun w' g' hg hk => ⟨hk.1, hk.2.1, hk.2.2.1, hk.2.2.2.1, hg, hk.2.2.2.2.2⟩⟩
    have q5 : sizeK k = -1 ∨ ((b : Nat) : Int) ≤ sizeK k := q4
    unfold leftN
    by_cases hz : sizeK k = -1
    · rw [if_pos hz]; exact .inl rfl
    · rw [if_neg hz]
      rcases q5 with q5 | q5
      · exact absurd q5 hz
      · rcases hs with hs | hs
        · exact absurd hs hz
        · exact .inr (by omega)
def otherL : List Nat := [116, 104, 101, 32, 111, 116, 104, 101, 114, 32, 111, 110, 101]
def otherCells : Obj := Obj.cells #[Value.int IntKind.u8 116, Value.int IntKind.u8 104, Value.int IntKind.u8 101, Value.int IntKind.u8 32, Value.int IntKind.u8 111, Value.int IntKind.u8 116, Value.int IntKind.u8 104, Value.int IntKind.u8 101, Value.int IntKind.u8 114, Value.int IntKind.u8 32, Value.int IntKind.u8 111, Value.int IntKind.u8 110, Value.int IntKind.u8 101] 5 (13, 14)
theorem other_eq : otherCells = Obj.cells (bytesV otherL).toArray 5 (13, 14) := rfl
theorem other_bin (w : World) : BIn (w.alloc otherCells) (some ⟨w.heap.size, 0, none⟩) 13 13 otherL := by
  refine ⟨⟨rfl, by unfold maxLen; omega, by decide, .inr ⟨w.heap.size, 0, rfl, fun i hi => ?_⟩⟩, Nat.le_refl _, by unfold maxLen; omega, by omega, fun h => by cases h⟩
  rw [other_eq, Nat.zero_add, World.cell?_alloc_mark]
  have hl : i < otherL.length := hi
  simp [bytesV, List.getD_eq_getElem?_getD, List.getElem?_eq_getElem hl]
/-- the other one takes bytes in, or not -/
def WrC (g k : Nat) (gv : Bool) (lf : Int) (w : World) (e : Ending) (w' : World) : Prop := ∃ E a' s', e = .returned (.int .i64 E) ∧ SpAt w' g k a' gv lf s' ∧ w.grownBy w' (some g)
theorem wr_c (g k a : Nat) (gv : Bool) (lf : Int) (s : List Nat) (A : Option Addr) (n c : Nat) (l : List Nat) (w : World) (h : SpAt w g k a gv lf s) (hb : BIn w A n c l) (hne : ∀ b, A = some b → 0 < n → b.block ≠ g) (htab : Tabs w) :
    Calls Tryd.prog 23 #[.pointer (some ⟨g, 0, none⟩), .slice A n c] w (WrC g k gv lf w) := by
  cases gv
  · exact (write_any g k a lf s A n c l w h hb hne htab).mono fun e w' q => ⟨_, _, _, q.1, q.2.1, q.2.2⟩
  · exact (write_late g k a lf s _ w h).mono fun e w' q => ⟨_, _, _, q.1, q.2 ▸ h, q.2 ▸ grown_refl _ _⟩
/-- the other one gives bytes out, or not -/
def RdC (g : Nat) (w : World) (e : Ending) (w' : World) : Prop := ∃ V, e = .returned V ∧ w.grownBy w' (some g)
theorem rd_c (g k a : Nat) (gv : Bool) (lf : Int) (s : List Nat) (w : World) (h : SpAt w g k a gv lf s) (hlf : lf = -1 ∨ (0 ≤ lf ∧ lf ≤ 64)) (htab : Tabs w) :
    Calls Tryd.prog 24 #[.pointer (some ⟨g, 0, none⟩), .int .i64 9] w (RdC g w) := by
  by_cases hs : lf = -1 ∨ (9 : Int) ≤ lf
  · have := readSp_any g k a 9 gv lf s w h (by omega) (by rcases hs with q | q; exact .inl q; exact .inr ⟨by omega, by omega⟩) htab _ rfl
    exact this.mono fun e w' ⟨G, q1, _, _, _, q2⟩ => ⟨_, q1, q2⟩
  · have := read_spent g k a 9 gv lf s w h (by omega) (fun e => hs (.inl e)) (by omega)
    exact this.mono fun e w' ⟨q1, q, q2⟩ => ⟨_, q1, q2 ▸ grown_drewN (grown_refl w _) q⟩
theorem htab_fr {w w' : World} {F : Nat → Prop} (h : Tabs w) (hf : Fr w w' F) (hF : ¬ F 0) : Tabs w' := by
  exact fun i hi => (cell_heap (hf.2.2.2.2 0 h.size hF)).trans (h i hi)
set_option maxRecDepth 100000 in
set_option maxHeartbeats 3200000 in
theorem step_3 (gt ga gb B k : Nat) (ph : Option Nat) (L : List Nat) (v : Value) (N : Int) (a : Option Addr) (m c : Nat) (w : World) (ht : TwK w gt ga gb) (h : KT w B ga gb k ph L v) (hB : B ≤ w.heap.size) (hgt : v.ownBlock ≠ some gt) (hBa : B ≤ ga) (hBb : B ≤ gb) (hg1 : 1 ≤ gt) (htab : Tabs w) :
    Calls Tryd.prog 19 #[.pointer (some ⟨gt, 0, none⟩), .agg #[.int .i64 3, .int .i64 N, .slice a m c]] w (StK B gt ga gb ph L v m w) := by
  obtain ⟨p1, p2, p3, p4, p5, p6⟩ := h.apart
  obtain ⟨sa, sg, sl, ss, hsp, hsl, hcopy⟩ := h.copy
  obtain ⟨⟨cd, hcd⟩, _⟩ := h.doc
  have g1 : ga ≠ gt := blk_ne hsp.2.2.2.2 (show Blk w gt 44 _ from ht) (by decide)
  have g2' : gb ≠ gt := blk_ne hcd (show Blk w gt 44 _ from ht) (by decide)
  have hgtl : gt < w.heap.size := Blk.lt ht
  obtain ⟨W1, hW1⟩ : ∃ W1, w.alloc (.cells #[.int .i64 3, .int .i64 N, .slice a m c] 49) = W1 := ⟨_, rfl⟩
  have hb1 : Below w.heap.size w W1 := hW1 ▸ (Below.refl w.heap.size w).alloc (Nat.le_refl _) _
  have hs1 : W1.heap.size = w.heap.size + 1 := by rw [← hW1]; simp
  have hbox : Blk W1 w.heap.size 49 [.int .i64 3, .int .i64 N, .slice a m c] := by rw [← hW1]; exact Blk.new w 49 _
  have hc0 : W1.cell? ⟨w.heap.size, 0, none⟩ = some (.int .i64 3) := hbox.cell 0
  have ht1 : Blk W1 gt 44 [.pointer (some ⟨ga, 0, none⟩), .pointer (some ⟨gb, 0, none⟩)] := Blk.below ht hb1 hgtl
  have hcg : W1.cell? ⟨gt, 0, none⟩ = some (.pointer (some ⟨ga, 0, none⟩)) := ht1.cell 0
  have HCP := Lib.hid (copy_any ga k sa sg sl ss W1 (sp_fr hsp (Fr.below hb1 : Fr w W1 (fun _ => False)) (fun x => x)))
  have HKT := Lib.hid (h.fr (Fr.below hb1 : Fr w W1 (fun _ => False)) (fun x => x) (fun x => x) (fun _ _ x => x))
  have HCPY := Lib.hid hcopy
  have HT1 := Lib.hid ht1
  have HBX := Lib.hid hbox
  have HTAB := Lib.hid (htab.below hb1)
  have HF1 := Lib.hid (show ∀ F, Fr w W1 F from fun F => Fr.below hb1)
  have HSP := Lib.hid (sp_fr hsp (Fr.below hb1 : Fr w W1 (fun _ => False)) (fun x => x))
  have hcond : (3 : Int) = 3 ∨ (3 : Int) = 4 := by omega
  clear ht h hb1 hbox hcd hsp hcopy ht1 htab
  unfold StK
  unfold CopyIs at HCP
  go_enter Tryd.func19, Tryd.ntmps19
  go_upto_region 18 with (fail)
  try rw [hW1]
  clear hW1 hcond
  go_wp2_with fail
  refine HCP.out.mono ?_
  rintro e w2 ⟨g2, rfl, hg2, hsp2, hb2⟩
  have HS2 := Lib.hid hsp2
  have HK2 := Lib.hid (HKT.out.fr (Fr.below hb2 : Fr W1 w2 (fun _ => False)) (fun x => x) (fun x => x) (fun _ _ x => x))
  have HSA := Lib.hid (sp_fr HSP.out (Fr.below hb2 : Fr W1 w2 (fun _ => False)) (fun x => x))
  have HT2 := Lib.hid (Blk.below' HT1.out hb2)
  have HX2 := Lib.hid (Blk.below' HBX.out hb2)
  have hsz2 : W1.heap.size ≤ w2.heap.size := hb2.size
  have HTB2 := Lib.hid (HTAB.out.below hb2)
  have HF2 := Lib.hid (show ∀ F, Fr w w2 F from fun F => (HF1.out F).trans (Fr.below hb2) (fun j _ e => e))
  have kb0 : w2.cell? ⟨w.heap.size, 0, none⟩ = some (.int .i64 3) := HX2.out.cell 0
  have kt0 : w2.cell? ⟨gt, 0, none⟩ = some (.pointer (some ⟨ga, 0, none⟩)) := HT2.out.cell 0
  have kf0 := HT2.out.free 0
  have hng : g2 ≠ gt := by omega
  have hg2l : g2 < w2.heap.size := HS2.out.2.2.2.2.lt
  have hnga : g2 ≠ ga := by omega
  have hngb : g2 ≠ gb := by omega
  clear hsp2 hb2 HCP HKT hcg hc0 HTAB
  obtain ⟨w3, hw3⟩ : ∃ w3, w2.setCell ⟨gt, 0, none⟩ (.pointer (some ⟨g2, 0, none⟩)) = w3 := ⟨_, rfl⟩
  have hg3 : w2.grownBy w3 (some gt) := by rw [← hw3]; exact grown_setCell w2 ⟨gt, 0, none⟩ _
  have hf3 : Fr w2 w3 (fun j => j = gt) := Fr.grown hg3 (fun j e _ => by injection e with e; exact e.symm)
  have HT3 := Lib.hid (show Blk w3 gt 44 [.pointer (some ⟨g2, 0, none⟩), .pointer (some ⟨gb, 0, none⟩)] from by rw [← hw3]; exact HT2.out.set 0 _)
  have hsz3 : w2.heap.size ≤ w3.heap.size := hg3.size
  obtain ⟨w4, hw4⟩ : ∃ w4, w3.alloc otherCells = w4 := ⟨_, rfl⟩
  have hb4 : Below w3.heap.size w3 w4 := hw4 ▸ (Below.refl w3.heap.size w3).alloc (Nat.le_refl _) _
  have hf4 : Fr w2 w4 (fun j => j = gt) := hf3.trans (Fr.below hb4) (fun j _ e => e)
  have htab4 : Tabs w4 := htab_fr HTB2.out hf4 (by omega)
  have hspc : SpAt w4 ga k sa sg sl ss := sp_fr HSA.out hf4 (by omega)
  have hbin : BIn w4 (some ⟨w3.heap.size, 0, none⟩) 13 13 otherL := by rw [← hw4]; exact other_bin w3
  have HWR := Lib.hid (wr_c ga k sa sg sl ss _ 13 13 otherL w4 hspc hbin (fun b e _ => by injection e with e; subst e; show w3.heap.size ≠ ga; omega) htab4)
  have HF4 := Lib.hid hf4
  have HT4 := Lib.hid (Blk.below' HT3.out hb4)
  have HTB4 := Lib.hid htab4
  have hsz4 := hb4.size
  have kc := fun (w : World) (C : Array Value) (n c : Nat) => Lib.run_convert_bytes_const (P := Tryd.prog) w 27 5 C n c Tryd.underlying27 Tryd.underlying5
  unfold otherCells at hw4
  unfold WrC at HWR
  clear hf3 hf4 hb4 hspc hbin hg3 htab4
  go_upto_region 23 with (fail)
  try rw [hw3]
  clear hw3
  go_wp2_with fail
  clear kc
  try rw [hw4]
  refine HWR.out.mono ?_
  rintro e w5 ⟨E5, a5, s5, rfl, hsp5, hg5⟩
  have hf5 : Fr w4 w5 (fun j => j = ga) := Fr.grown hg5 (fun j e _ => by injection e with e; exact e.symm)
  have HF5 := Lib.hid hf5
  have HRD := Lib.hid (rd_c ga k a5 sg sl s5 w5 hsp5 hsl (htab_fr HTB4.out hf5 (by omega)))
  unfold RdC at HRD
  clear hsp5 hg5 hf5 HWR
  go_wp2_with fail
  refine HRD.out.mono ?_
  rintro e w6 ⟨V6, rfl, hg6⟩
  have hf6 : Fr w5 w6 (fun j => j = ga) := Fr.grown hg6 (fun j e _ => by injection e with e; exact e.symm)
  have hf46 := HF5.out.trans hf6 (fun j _ e => e)
  have HT6 := Lib.hid (show TwK w6 gt g2 gb from blk_fr HT4.out hf46 (by omega))
  have hf26 : Fr w2 w6 (fun j => j = gt ∨ j = ga) := (HF4.out.mono (fun j _ e => .inl e)).trans (hf46.mono (fun j _ e => (.inr e : j = gt ∨ j = ga))) (fun j _ e => e)
  have HKN := Lib.hid ((HCPY.out w2 g2 HS2.out HK2.out).fr hf26 (by rintro (q | q) <;> omega) (by rintro (q | q); exact g2' q; exact p1 q.symm) (fun j hj e => by rcases e with e | e; exact hgt (e ▸ hj); exact p2 (e ▸ hj)))
  have HFN := Lib.hid ((HF2.out (fun j => j = gt ∨ j = ga ∨ j = gb ∨ v.ownBlock = some j)).trans hf26 (fun j _ e => e.elim .inl (fun q => .inr (.inl q))))
  clear hf6 hf46 hf26 hg6
  go_wp2_with fail
  go_ret
  exact ⟨rfl, g2, gb, k, ph, L, v, HT6.out, HKN.out, HFN.out, by omega, hBb, by omega, by omega⟩
set_option maxRecDepth 100000 in
set_option maxHeartbeats 3200000 in
theorem step_4 (gt ga gb B k : Nat) (ph : Option Nat) (L : List Nat) (v : Value) (N : Int) (a : Option Addr) (m c : Nat) (w : World) (ht : TwK w gt ga gb) (h : KT w B ga gb k ph L v) (hB : B ≤ w.heap.size) (hgt : v.ownBlock ≠ some gt) (hBa : B ≤ ga) (hBb : B ≤ gb) (hg1 : 1 ≤ gt) (htab : Tabs w) :
    Calls Tryd.prog 19 #[.pointer (some ⟨gt, 0, none⟩), .agg #[.int .i64 4, .int .i64 N, .slice a m c]] w (StK B gt ga gb ph L v m w) := by
  obtain ⟨p1, p2, p3, p4, p5, p6⟩ := h.apart
  obtain ⟨sa, sg, sl, ss, hsp, hsl, hcopy⟩ := h.copy
  obtain ⟨⟨cd, hcd⟩, _⟩ := h.doc
  have g1 : ga ≠ gt := blk_ne hsp.2.2.2.2 (show Blk w gt 44 _ from ht) (by decide)
  have g2' : gb ≠ gt := blk_ne hcd (show Blk w gt 44 _ from ht) (by decide)
  have hgtl : gt < w.heap.size := Blk.lt ht
  obtain ⟨W1, hW1⟩ : ∃ W1, w.alloc (.cells #[.int .i64 4, .int .i64 N, .slice a m c] 49) = W1 := ⟨_, rfl⟩
  have hb1 : Below w.heap.size w W1 := hW1 ▸ (Below.refl w.heap.size w).alloc (Nat.le_refl _) _
  have hs1 : W1.heap.size = w.heap.size + 1 := by rw [← hW1]; simp
  have hbox : Blk W1 w.heap.size 49 [.int .i64 4, .int .i64 N, .slice a m c] := by rw [← hW1]; exact Blk.new w 49 _
  have hc0 : W1.cell? ⟨w.heap.size, 0, none⟩ = some (.int .i64 4) := hbox.cell 0
  have ht1 : Blk W1 gt 44 [.pointer (some ⟨ga, 0, none⟩), .pointer (some ⟨gb, 0, none⟩)] := Blk.below ht hb1 hgtl
  have hcg : W1.cell? ⟨gt, 0, none⟩ = some (.pointer (some ⟨ga, 0, none⟩)) := ht1.cell 0
  have HCP := Lib.hid (copy_any ga k sa sg sl ss W1 (sp_fr hsp (Fr.below hb1 : Fr w W1 (fun _ => False)) (fun x => x)))
  have HKT := Lib.hid (h.fr (Fr.below hb1 : Fr w W1 (fun _ => False)) (fun x => x) (fun x => x) (fun _ _ x => x))
  have HCPY := Lib.hid hcopy
  have HT1 := Lib.hid ht1
  have HBX := Lib.hid hbox
  have HTAB := Lib.hid (htab.below hb1)
  have HF1 := Lib.hid (show ∀ F, Fr w W1 F from fun F => Fr.below hb1)
  have HSP := Lib.hid (sp_fr hsp (Fr.below hb1 : Fr w W1 (fun _ => False)) (fun x => x))
  have hcond : (4 : Int) = 3 ∨ (4 : Int) = 4 := by omega
  clear ht h hb1 hbox hcd hsp hcopy ht1 htab
  unfold StK
  unfold CopyIs at HCP
  go_enter Tryd.func19, Tryd.ntmps19
  go_upto_region 18 with (fail)
  try rw [hW1]
  clear hW1 hcond
  go_wp2_with fail
  refine HCP.out.mono ?_
  rintro e w2 ⟨g2, rfl, hg2, hsp2, hb2⟩
  have HS2 := Lib.hid hsp2
  have HK2 := Lib.hid (HKT.out.fr (Fr.below hb2 : Fr W1 w2 (fun _ => False)) (fun x => x) (fun x => x) (fun _ _ x => x))
  have HSA := Lib.hid (sp_fr HSP.out (Fr.below hb2 : Fr W1 w2 (fun _ => False)) (fun x => x))
  have HT2 := Lib.hid (Blk.below' HT1.out hb2)
  have HX2 := Lib.hid (Blk.below' HBX.out hb2)
  have hsz2 : W1.heap.size ≤ w2.heap.size := hb2.size
  have HTB2 := Lib.hid (HTAB.out.below hb2)
  have HF2 := Lib.hid (show ∀ F, Fr w w2 F from fun F => (HF1.out F).trans (Fr.below hb2) (fun j _ e => e))
  have kb0 : w2.cell? ⟨w.heap.size, 0, none⟩ = some (.int .i64 4) := HX2.out.cell 0
  have kt0 : w2.cell? ⟨gt, 0, none⟩ = some (.pointer (some ⟨ga, 0, none⟩)) := HT2.out.cell 0
  have kf0 := HT2.out.free 0
  have hng : g2 ≠ gt := by omega
  have hg2l : g2 < w2.heap.size := HS2.out.2.2.2.2.lt
  have hnga : g2 ≠ ga := by omega
  have hngb : g2 ≠ gb := by omega
  clear hsp2 hb2 HCP HKT hcg hc0 HTAB
  have hg3 : w2.grownBy w2 (some gt) := grown_refl _ _
  have hf3 : Fr w2 w2 (fun j => j = gt) := Fr.refl _ _
  have HT3 := Lib.hid (show Blk w2 gt 44 [.pointer (some ⟨ga, 0, none⟩), .pointer (some ⟨gb, 0, none⟩)] from HT2.out)
  have hsz3 : w2.heap.size ≤ w2.heap.size := hg3.size
  obtain ⟨w4, hw4⟩ : ∃ w4, w2.alloc otherCells = w4 := ⟨_, rfl⟩
  have hb4 : Below w2.heap.size w2 w4 := hw4 ▸ (Below.refl w2.heap.size w2).alloc (Nat.le_refl _) _
  have hf4 : Fr w2 w4 (fun j => j = gt) := hf3.trans (Fr.below hb4) (fun j _ e => e)
  have htab4 : Tabs w4 := htab_fr HTB2.out hf4 (by omega)
  have hspc : SpAt w4 g2 k sa sg sl ss := sp_fr HS2.out hf4 (by omega)
  have hbin : BIn w4 (some ⟨w2.heap.size, 0, none⟩) 13 13 otherL := by rw [← hw4]; exact other_bin w2
  have HWR := Lib.hid (wr_c g2 k sa sg sl ss _ 13 13 otherL w4 hspc hbin (fun b e _ => by injection e with e; subst e; show w2.heap.size ≠ g2; omega) htab4)
  have HF4 := Lib.hid hf4
  have HT4 := Lib.hid (Blk.below' HT3.out hb4)
  have HTB4 := Lib.hid htab4
  have hsz4 := hb4.size
  have kc := fun (w : World) (C : Array Value) (n c : Nat) => Lib.run_convert_bytes_const (P := Tryd.prog) w 27 5 C n c Tryd.underlying27 Tryd.underlying5
  unfold otherCells at hw4
  unfold WrC at HWR
  clear hf3 hf4 hb4 hspc hbin hg3 htab4
  go_upto_region 23 with (fail)
  go_wp2_with fail
  clear kc
  try rw [hw4]
  refine HWR.out.mono ?_
  rintro e w5 ⟨E5, a5, s5, rfl, hsp5, hg5⟩
  have hf5 : Fr w4 w5 (fun j => j = g2) := Fr.grown hg5 (fun j e _ => by injection e with e; exact e.symm)
  have HF5 := Lib.hid hf5
  have HRD := Lib.hid (rd_c g2 k a5 sg sl s5 w5 hsp5 hsl (htab_fr HTB4.out hf5 (by omega)))
  unfold RdC at HRD
  clear hsp5 hg5 hf5 HWR
  go_wp2_with fail
  refine HRD.out.mono ?_
  rintro e w6 ⟨V6, rfl, hg6⟩
  have hf6 : Fr w5 w6 (fun j => j = g2) := Fr.grown hg6 (fun j e _ => by injection e with e; exact e.symm)
  have hf46 := HF5.out.trans hf6 (fun j _ e => e)
  have HT6 := Lib.hid (show TwK w6 gt ga gb from blk_fr HT4.out hf46 (by omega))
  have hf26 : Fr w2 w6 (fun j => j = gt ∨ j = g2) := (HF4.out.mono (fun j _ e => .inl e)).trans (hf46.mono (fun j _ e => (.inr e : j = gt ∨ j = g2))) (fun j _ e => e)
  have HKN := Lib.hid (HK2.out.fr (hf26.mono (fun j hj e => e)) (by rintro (q | q) <;> omega) (by rintro (q | q); exact g2' q; exact hngb q.symm) (fun j hj e => by rcases e with e | e; exact hgt (e ▸ hj); exact absurd ((HK2.out.2.2.1.lt j hj).2) (by have h9 := HS2.out.2.2.2.2; have h8 := own_ne_t HK2.out.2.2.1 h9 (by decide); exact fun _ => h8 (by rw [← e]; exact hj.symm))))
  have HFN := Lib.hid ((HF2.out (fun j => j = gt ∨ j = ga ∨ j = gb ∨ v.ownBlock = some j)).trans hf26 (fun j hj e => e.elim .inl (fun q => by omega)))
  clear hf6 hf46 hf26 hg6
  go_wp2_with fail
  go_ret
  exact ⟨rfl, ga, gb, k, ph, L, v, HT6.out, HKN.out, HFN.out, hBa, hBb, by omega, by omega⟩
/-- what 'begun' leaves -/
def BegIs (gt B k : Nat) (w : World) (e : Ending) (w' : World) : Prop := e = .returned (.tuple #[.bool true, .bool true]) ∧ ∃ ga gb, B ≤ ga ∧ B ≤ gb ∧ TwK w' gt ga gb ∧ KT w' B ga gb k none [] (.slice none 0 0) ∧ Fr w w' (fun j => j = gt)
set_option maxRecDepth 100000 in
set_option maxHeartbeats 1600000 in
theorem begun_yes (gt B k : Nat) (hk : IsKind k) (pa pb : Value) (w : World) (ht : Blk w gt 44 [pa, pb]) (hB : B ≤ w.heap.size) (htab : Tabs w) : Calls Tryd.prog 18 #[.pointer (some ⟨gt, 0, none⟩), .int .i64 (k : Nat)] w (BegIs gt B k w) := by
  have HN := Lib.hid (new_any k hk w htab)
  have HRK := Lib.hid (fun w => refKind_any k hk w)
  have HT := Lib.hid ht
  have HK := Lib.hid hk
  have hgtl := ht.lt
  have HLZ := Lib.hid (sizeK_cases hk)
  clear ht htab hk
  unfold BegIs
  unfold NewSp at HN
  go_enter Tryd.func18, Tryd.ntmps18
  go_wp2_with fail
  refine HN.out.mono ?_
  rintro e w1 ⟨ga, rfl, hga, hsp, hb1⟩
  have HS1 := Lib.hid hsp
  have h1 := Blk.below' HT.out hb1
  have hs1 : w.heap.size ≤ w1.heap.size := hb1.size
  have HF1 := Lib.hid (show Fr w w1 (fun j => j = gt) from Fr.below hb1)
  have h2 := h1.set 0 (.pointer (some ⟨ga, 0, none⟩))
  have kc0 := h1.cell 0
  have kf0 := h1.free 0
  rw [show ([pa, pb] : List Value)[0]? = some pa from rfl] at kc0
  obtain ⟨w2, hw2⟩ : ∃ w2, w1.setCell ⟨gt, 0, none⟩ (.pointer (some ⟨ga, 0, none⟩)) = w2 := ⟨_, rfl⟩
  rw [hw2] at h2
  have hg2 : w1.grownBy w2 (some gt) := by rw [← hw2]; exact grown_setCell w1 ⟨gt, 0, none⟩ _
  have hs2 : w1.heap.size ≤ w2.heap.size := hg2.size
  have HF2 := Lib.hid (HF1.out.trans (Fr.grown (F := fun j => j = gt) hg2 (fun j e _ => by injection e with e; exact e.symm)) (fun j _ e => e))
  have HS2 := Lib.hid (sp_fr HS1.out (Fr.grown (F := fun j => j = gt) hg2 (fun j e _ => by injection e with e; exact e.symm)) (by have := h1.lt; omega))
  have HT2 := Lib.hid (show Blk w2 gt 44 [.pointer (some ⟨ga, 0, none⟩), pb] from h2)
  clear hsp hb1 h1 h2 hg2
  go_wp2_with fail
  refine (HRK.out _).mono ?_
  rintro e w' ⟨rfl, rfl⟩
  go_upto_region 7 with (fail)
  try rw [hw2]
  clear hw2 kc0 kf0
  obtain ⟨w3, hw3⟩ : ∃ w3, w2.alloc (.cells #[Value.int IntKind.i64 (k : Nat), Value.slice none 0 0, Value.bool false, Value.int IntKind.i64 0, Value.int IntKind.u64 0, Value.int IntKind.u64 0, Value.int IntKind.u64 0, Value.int IntKind.u64 0, Value.int IntKind.u64 0, Value.int IntKind.u64 0, Value.int IntKind.u64 0, Value.int IntKind.u64 0, Value.int IntKind.u64 0, Value.int IntKind.u64 0, Value.int IntKind.u64 0, Value.int IntKind.u64 0, Value.int IntKind.u64 0, Value.int IntKind.u64 0, Value.int IntKind.u64 0, Value.int IntKind.u64 0, Value.int IntKind.u64 0, Value.int IntKind.u64 0, Value.int IntKind.u64 0, Value.int IntKind.u64 0, Value.int IntKind.u64 0, Value.int IntKind.u64 0, Value.int IntKind.u64 0, Value.int IntKind.u64 0, Value.int IntKind.u64 0, Value.int IntKind.i64 0] 72) = w3 := ⟨_, rfl⟩
  have hb3 : Below w2.heap.size w2 w3 := hw3 ▸ (Below.refl w2.heap.size w2).alloc (Nat.le_refl _) _
  have h3 := Blk.below' HT2.out hb3
  have kc1 := h3.cell 1
  have kf1 := h3.free 1
  rw [show ([.pointer (some ⟨ga, 0, none⟩), pb] : List Value)[1]? = some pb from rfl] at kc1
  have hnew : Blk w3 w2.heap.size 72 (rsV (.int .i64 (k : Nat)) (.slice none 0 0) (.bool false) (.int .i64 0) (zeros 25) (.int .i64 0)) := by rw [← hw3]; exact Blk.new w2 72 (rsV (.int .i64 (k : Nat)) (.slice none 0 0) (.bool false) (.int .i64 0) (zeros 25) (.int .i64 0))
  have hf3 : Fr w2 (w3.setCell ⟨gt, 1, none⟩ (.pointer (some ⟨w2.heap.size, 0, none⟩))) (fun j => j = gt) := (Fr.below hb3).trans (Fr.grown (grown_setCell w3 ⟨gt, 1, none⟩ _) (fun j e _ => by injection e with e; exact e.symm)) (fun j _ e => e)
  have HFN := Lib.hid (HF2.out.trans hf3 (fun j _ e => e))
  have HSN := Lib.hid (sp_fr HS2.out hf3 (by omega))
  have HTN := Lib.hid (show TwK (w3.setCell ⟨gt, 1, none⟩ (.pointer (some ⟨w2.heap.size, 0, none⟩))) gt ga w2.heap.size from h3.set 1 _)
  have HDN := Lib.hid (show Blk (w3.setCell ⟨gt, 1, none⟩ (.pointer (some ⟨w2.heap.size, 0, none⟩))) w2.heap.size 72 (rsV (.int .i64 (k : Nat)) (.slice none 0 0) (.bool false) (.int .i64 0) (zeros 25) (.int .i64 0)) from hnew.other _ _ (by show w2.heap.size ≠ gt; omega))
  clear hb3 h3 hnew hf3
  go_wp2_with fail
  go_ret2
  exact ⟨rfl, ga, w2.heap.size, by omega, by omega, HTN.out, ⟨HK.out, by simp, World.ownsRow_nil _ _ _ _, (by rcases HLZ.out with q | q; exact .inl q; exact .inr (by show ((0 : Nat) : Int) ≤ _; omega)), HSN.out, HDN.out⟩, HFN.out⟩
theorem refKind_bad (k : Int) (hk : k < 1 ∨ 5 < k) (w : World) : Calls Tryd.prog 38 #[.int .i64 k] w fun e w' => e = .returned (.tuple #[.int .i64 0, .int .u8 0, .int .i64 0, .bool false]) ∧ w = w' := by
  have e1 : (k == 1) = false := beq_eq_false_iff_ne.2 (by omega)
  have e2 : (k == 2) = false := beq_eq_false_iff_ne.2 (by omega)
  have e3 : (k == 3) = false := beq_eq_false_iff_ne.2 (by omega)
  have e4 : (k == 4) = false := beq_eq_false_iff_ne.2 (by omega)
  have e5 : (k == 5) = false := beq_eq_false_iff_ne.2 (by omega)
  go_enter Tryd.func38, Tryd.ntmps38
  go_wp2_with fail
  exact bodyPost_ret (by simp [results, Tryd.results38, go_sem]) rfl ⟨rfl, rfl⟩
theorem begun_no (gt : Nat) (k : Int) (hk : k < 1 ∨ 5 < k) (w : World) : Calls Tryd.prog 18 #[.pointer (some ⟨gt, 0, none⟩), .int .i64 k] w fun e w' => e = .returned (.tuple #[.bool true, .bool false]) ∧ w = w' := by
  have HN := Lib.hid (fun w => new_bad k hk w)
  have HR := Lib.hid (fun w => refKind_bad k hk w)
  go_enter Tryd.func18, Tryd.ntmps18
  go_wp2_with fail
  refine (HN.out _).mono ?_
  rintro e w' ⟨rfl, rfl⟩
  go_wp2_with fail
  refine (HR.out _).mono ?_
  rintro e w' ⟨rfl, rfl⟩
  go_wp2_with fail
  go_ret2
  exact ⟨rfl, rfl⟩
end Go.Proofs.YtidnlaibfkjgpaaDoor
