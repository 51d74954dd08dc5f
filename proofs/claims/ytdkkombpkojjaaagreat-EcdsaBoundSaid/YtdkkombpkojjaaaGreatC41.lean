/- Parts of proofs of statements, each text behind those that it stands on. No condition of its own. -/
import Derived.Test.YtdkkombpkojjaaaGreatC40
namespace Go.Proofs.YtdkkombpkojjaaaGreat
set_option maxRecDepth 100000
set_option maxHeartbeats 6400000
open Go.RowKit
set_option linter.unusedVariables false
set_option linter.unusedSimpArgs false
theorem stM {ops : Array Oper} {rest : List Oper} {o : Oper} {a : Act} {Q : Exit → Act → World → Prop} {w : World} (hgd : o.guard = none) (ty : TypeId) (x y : Operand) (ho : o.op = .store ty x y) (W0 : World) (hx : a.eval x = .pointer (some ⟨W0.heap.size, 0, none⟩)) (cs : List Value) (hy : a.eval y = .agg cs.toArray) (ta : TypeId) (zs : List Value)
   (hi : (Tryz.prog.info? ty).map (·.size) = some cs.length) (hl : zs.length = cs.length) (h1 : ∀ v ∈ cs, v.oneCell' = true)
   (h : ∀ N, Gr W0 N → Blk N W0.heap.size ta cs → wpList Tryz.prog ops Q rest (a.put o.dst undef) N) (hw : w = W0.alloc (.cells zs.toArray ta) := by rfl) : wpList Tryz.prog ops Q (o :: rest) a w := by
 subst hw
 exact stN hgd ty x y ho W0 hx cs hy ta zs hi hl h1 h
def sgv (lD lK : List Nat) (v : Value) : List Value := natsV .u64 lD ++ (natsV .u64 lK ++ [v])
theorem sg_x {w : World} {g : Nat} {t : TypeId} {lD lK : List Nat} {v : Value} (h : Blk w g t (sgv lD lK v)) : w.rangeAt g 0 (natsV .u64 lD) := blk_part (a := []) (b := natsV .u64 lD) h rfl
theorem sg_y {w : World} {g : Nat} {t : TypeId} {lD lK : List Nat} {v : Value} (h : Blk w g t (sgv lD lK v)) (hx : lD.length = 4) : w.rangeAt g 4 (natsV .u64 lK) := blk_part (a := natsV .u64 lD) (b := natsV .u64 lK) h (by rw [natsV_length, hx])
theorem sg_s {w : World} {g : Nat} {t : TypeId} {lD lK : List Nat} {v : Value} (h : Blk w g t (sgv lD lK v)) (hx : lD.length = 4) (hy : lK.length = 4) : w.cell? ⟨g, 8, none⟩ = some v := by
 rw [h.cell 8]
 unfold sgv
 rw [← List.append_assoc, List.getElem?_append_right (by rw [List.length_append, natsV_length, natsV_length, hx, hy]; exact Nat.le_refl _), List.length_append, natsV_length, natsV_length, hx, hy]
 rfl
theorem hmk32 (w : World) : (Instr.makeSlice 22 (.int .i64 32) (.int .i64 32)).run Tryz.prog w = .ok (.slice (some ⟨w.heap.size, 0, none⟩) 32 32) (w.alloc (.cells (natsV .u8 (zeros 32)).toArray 5)) := by kernel_rfl
theorem srcA_of {w : World} {A : Option Addr} {n c m : Nat} {l : List Nat} (hB : BIn w A n c l) (hm : m ≤ n) (h : 0 < (natsV .u8 (l.take m)).length) :
   ∃ ad, A = some ad ∧ ∀ j v, (natsV .u8 (l.take m))[j]? = some v → w.cell? (ad.add j) = some v := by
 rw [natsV_length, List.length_take, hB.1.1] at h
 obtain ⟨b, o, rfl, hc⟩ := hB.1.2.2.2.resolve_left (by omega)
 refine ⟨_, rfl, fun j v hv => ?_⟩
 have k := cpos hc hm hv
 rcases j with _ | j
 · exact k
 · exact k
theorem splice_f (m : Nat) (l : List Nat) (hm : m ≤ 32) (hl : l.length = m) : splice (natsV .u8 (zeros 32)) 0 (natsV .u8 l) = natsV .u8 (l ++ zeros (32 - m)) := by
 unfold splice
 rw [List.take_zero, List.nil_append, natsV_append, natsV_length, hl, Nat.zero_add, natsV_drop]
 rw [show (zeros 32).drop m = zeros (32 - m) from by unfold zeros; rw [List.drop_replicate]]
theorem alloc_cell {w : World} {p : Addr} {v : Value} (h : w.cell? p = some v) (o : Obj) : (w.alloc o).cell? p = some v := (((Below.refl w.heap.size w).alloc (Nat.le_refl _) o).cell (World.block_lt_of_cell? w _ h)).trans h
theorem bin_lt {w : World} {G n c : Nat} {l : List Nat} (h : BIn w (some ⟨G, 0, none⟩) n c l) (hn : 0 < n := by omega) : G < w.heap.size := by
 obtain ⟨b, o, he, hc⟩ := h.1.2.2.2.resolve_left (by omega)
 injection he with he
 injection he with e1 e2
 subst e1
 exact World.block_lt_of_cell? w _ (hc 0 hn)
theorem wbound_d0 {lD lK ln ld lk : List Nat} {A A2 : Option Addr} {n c n2 e2 m : Nat} {l l2 : List Nat} (w : World) (hlD : lD.length = 4) (hlK : lK.length = 4) (hln : ln.length = 4) (hld : ld.length = 4) (hlk : lk.length = 4)
   (z1 : ld = zeros 4)
   (c1 : Ans 6 #[] (.bool true))
   (c2 : Ans 17 #[] (.agg (natsV .u64 ln).toArray))
   (c3 : Ans 18 #[.agg (natsV .u64 lD).toArray, .bool false, .agg (natsV .u64 ln).toArray] (.agg (natsV .u64 ld).toArray))
   (c4 : Ans 18 #[.agg (natsV .u64 lK).toArray, .bool false, .agg (natsV .u64 ln).toArray] (.agg (natsV .u64 lk).toArray)) :
   Calls Tryz.prog 5 #[.agg (sgv lD lK (.slice A n c)).toArray, .slice A2 n2 e2] w fun e w' => e = .returned (.bool true) ∧ Below w.heap.size w w' := by
 have L_lD := Hd hlD
 have L_lK := Hd hlK
 have L_ln := Hd hln
 have L_ld := Hd hld
 have L_lk := Hd hlk
 have Hc1 := Hd c1
 have Hc2 := Hd c2
 have Hc3 := Hd c3
 have Hc4 := Hd c4
 have Q1 := Hd (fun w => (eql24 ld (zeros 4) L_ld.out rfl w).trans (by rw [decide_eq_true z1]))
 have B0_ := Hd (Blk.new w  42 (sgv lD lK (.slice A n c)))
 have bel_ := ((Below.refl w.heap.size w).alloc (Nat.le_refl _) (.cells (sgv lD lK (.slice A n c)).toArray 42))
 clear hlD hlK hln hld hlk c1 c2 c3 c4 z1
 go_enter Tryz.func5, Tryz.ntmps5
 go_wp2_with fail
 refine (Hc1.out _).mono ?_
 rintro e w1 ⟨rfl, hbw1⟩
 have C2 := Hd (B0_.out.gr hbw1)
 have hbel3 := bel_.trans (Below.mono hbw1 bel_.size)
 clear B0_ bel_ hbw1
 go_wp2_with fail
 refine (Hc2.out _).mono ?_
 rintro e w4 ⟨rfl, hbw4⟩
 have C5 := Hd (C2.out.gr hbw4)
 have hbel6 := hbel3.trans (Below.mono hbw4 hbel3.size)
 clear C2 hbel3 hbw4
 go_wp2_with (first | (refine stM rfl 26 (.tmp 6) (.tmp 24) rfl w4 rfl (natsV .u64 ln) rfl 26 (natsV .u64 (zeros 4)) (i24 L_ln.out) (lz4 L_ln.out) n1' ?_; intro w7 hgw7 hnw7; have C10 := Hd (C5.out.gr hgw7); clear C5; have hbel11 := hbel6.trans (Below.mono hgw7 hbel6.size); clear hbel6; have D9 := Hd hnw7; clear hnw7 hgw7; generalize w4.heap.size = G8 at *) | (refine wpList_load_mid rfl 26 (.tmp 25) rfl w.heap.size 0 rfl (natsV .u64 lD) _ (sg_x (C10.out)) Tryz.underlying26 rfl (i24 L_lD.out) ?_) | (refine wpList_load_mid rfl 26 (.tmp 6) rfl G8 0 rfl (natsV .u64 ln) _ (blk_all (D9.out)) Tryz.underlying26 rfl (i24 L_ln.out) ?_))
 refine (Hc3.out _).mono ?_
 rintro e w12 ⟨rfl, hbw12⟩
 have C13 := Hd (C10.out.gr hbw12)
 have C14 := Hd (D9.out.gr hbw12)
 have hbel15 := hbel11.trans (Below.mono hbw12 hbel11.size)
 clear C10 D9 hbel11 hbw12
 go_wp2_with (first | (refine stM rfl 26 (.tmp 7) (.tmp 28) rfl w12 rfl (natsV .u64 ld) rfl 26 (natsV .u64 (zeros 4)) (i24 L_ld.out) (lz4 L_ld.out) n1' ?_; intro w16 hgw16 hnw16; have C19 := Hd (C13.out.gr hgw16); clear C13; have C20 := Hd (C14.out.gr hgw16); clear C14; have hbel21 := hbel15.trans (Below.mono hgw16 hbel15.size); clear hbel15; have D18 := Hd hnw16; clear hnw16 hgw16; generalize w12.heap.size = G17 at *) | (refine wpList_load_mid rfl 26 (.tmp 29) rfl w.heap.size 4 rfl (natsV .u64 lK) _ (sg_y (C19.out) L_lD.out) Tryz.underlying26 rfl (i24 L_lK.out) ?_) | (refine wpList_load_mid rfl 26 (.tmp 6) rfl G8 0 rfl (natsV .u64 ln) _ (blk_all (C20.out)) Tryz.underlying26 rfl (i24 L_ln.out) ?_))
 refine (Hc4.out _).mono ?_
 rintro e w22 ⟨rfl, hbw22⟩
 have C23 := Hd (C19.out.gr hbw22)
 have C24 := Hd (C20.out.gr hbw22)
 have C25 := Hd (D18.out.gr hbw22)
 have hbel26 := hbel21.trans (Below.mono hbw22 hbel21.size)
 have qa := Q1.out
 clear C19 C20 D18 hbel21 hbw22
 go_wp2_with (first | (refine stM rfl 26 (.tmp 8) (.tmp 32) rfl w22 rfl (natsV .u64 lk) rfl 26 (natsV .u64 (zeros 4)) (i24 L_lk.out) (lz4 L_lk.out) n1' ?_; intro w27 hgw27 hnw27; have C30 := Hd (C23.out.gr hgw27); clear C23; have C31 := Hd (C24.out.gr hgw27); clear C24; have C32 := Hd (C25.out.gr hgw27); clear C25; have hbel33 := hbel26.trans (Below.mono hgw27 hbel26.size); clear hbel26; have D29 := Hd hnw27; clear hnw27 hgw27; generalize w22.heap.size = G28 at *) | (refine stM rfl 26 (.tmp 9) (.tmp 33) rfl w27 rfl (natsV .u64 (zeros 4)) rfl 26 (natsV .u64 (zeros 4)) (i24 z4l) (lz4 z4l) n1' ?_; intro w34 hgw34 hnw34; have C37 := Hd (C30.out.gr hgw34); clear C30; have C38 := Hd (C31.out.gr hgw34); clear C31; have C39 := Hd (C32.out.gr hgw34); clear C32; have C40 := Hd (D29.out.gr hgw34); clear D29; have hbel41 := hbel33.trans (Below.mono hgw34 hbel33.size); clear hbel33; have D36 := Hd hnw34; clear hnw34 hgw34; generalize w27.heap.size = G35 at *) | (refine wpList_load_mid rfl 26 (.tmp 7) rfl G17 0 rfl (natsV .u64 ld) _ (blk_all (C39.out)) Tryz.underlying26 rfl (i24 L_ld.out) ?_) | (refine wpList_load_mid rfl 26 (.tmp 9) rfl G35 0 rfl (natsV .u64 (zeros 4)) _ (blk_all (D36.out)) Tryz.underlying26 rfl (i24 z4l) ?_) | (refine ldwM 26 (.tmp 8) rfl G28 0 rfl (natsV .u64 lk) _ (blk_all (C40.out)) Tryz.underlying26 rfl (i24 L_lk.out) 3 false rfl 37 rfl rfl ?_) | (refine ldwM 26 (.tmp 9) rfl G35 0 rfl (natsV .u64 (zeros 4)) _ (blk_all (D36.out)) Tryz.underlying26 rfl (i24 z4l) 3 false rfl 37 rfl rfl ?_))
 go_ret
 exact ⟨rfl, hbel41⟩
theorem wbound_k0 {lD lK ln ld lk : List Nat} {A A2 : Option Addr} {n c n2 e2 m : Nat} {l l2 : List Nat} (w : World) (hlD : lD.length = 4) (hlK : lK.length = 4) (hln : ln.length = 4) (hld : ld.length = 4) (hlk : lk.length = 4)
   (z1 : ¬ ld = zeros 4)
   (z2 : lk = zeros 4)
   (c1 : Ans 6 #[] (.bool true))
   (c2 : Ans 17 #[] (.agg (natsV .u64 ln).toArray))
   (c3 : Ans 18 #[.agg (natsV .u64 lD).toArray, .bool false, .agg (natsV .u64 ln).toArray] (.agg (natsV .u64 ld).toArray))
   (c4 : Ans 18 #[.agg (natsV .u64 lK).toArray, .bool false, .agg (natsV .u64 ln).toArray] (.agg (natsV .u64 lk).toArray)) :
   Calls Tryz.prog 5 #[.agg (sgv lD lK (.slice A n c)).toArray, .slice A2 n2 e2] w fun e w' => e = .returned (.bool true) ∧ Below w.heap.size w w' := by
 have L_lD := Hd hlD
 have L_lK := Hd hlK
 have L_ln := Hd hln
 have L_ld := Hd hld
 have L_lk := Hd hlk
 have Hc1 := Hd c1
 have Hc2 := Hd c2
 have Hc3 := Hd c3
 have Hc4 := Hd c4
 have Q1 := Hd (fun w => (eql24 ld (zeros 4) L_ld.out rfl w).trans (by rw [decide_eq_false z1]))
 have Q2 := Hd (fun w => (eql24 lk (zeros 4) L_lk.out rfl w).trans (by rw [decide_eq_true z2]))
 have B0_ := Hd (Blk.new w  42 (sgv lD lK (.slice A n c)))
 have bel_ := ((Below.refl w.heap.size w).alloc (Nat.le_refl _) (.cells (sgv lD lK (.slice A n c)).toArray 42))
 clear hlD hlK hln hld hlk c1 c2 c3 c4 z1 z2
 go_enter Tryz.func5, Tryz.ntmps5
 go_wp2_with fail
 refine (Hc1.out _).mono ?_
 rintro e w1 ⟨rfl, hbw1⟩
 have C2 := Hd (B0_.out.gr hbw1)
 have hbel3 := bel_.trans (Below.mono hbw1 bel_.size)
 clear B0_ bel_ hbw1
 go_wp2_with fail
 refine (Hc2.out _).mono ?_
 rintro e w4 ⟨rfl, hbw4⟩
 have C5 := Hd (C2.out.gr hbw4)
 have hbel6 := hbel3.trans (Below.mono hbw4 hbel3.size)
 clear C2 hbel3 hbw4
 go_wp2_with (first | (refine stM rfl 26 (.tmp 6) (.tmp 24) rfl w4 rfl (natsV .u64 ln) rfl 26 (natsV .u64 (zeros 4)) (i24 L_ln.out) (lz4 L_ln.out) n1' ?_; intro w7 hgw7 hnw7; have C10 := Hd (C5.out.gr hgw7); clear C5; have hbel11 := hbel6.trans (Below.mono hgw7 hbel6.size); clear hbel6; have D9 := Hd hnw7; clear hnw7 hgw7; generalize w4.heap.size = G8 at *) | (refine wpList_load_mid rfl 26 (.tmp 25) rfl w.heap.size 0 rfl (natsV .u64 lD) _ (sg_x (C10.out)) Tryz.underlying26 rfl (i24 L_lD.out) ?_) | (refine wpList_load_mid rfl 26 (.tmp 6) rfl G8 0 rfl (natsV .u64 ln) _ (blk_all (D9.out)) Tryz.underlying26 rfl (i24 L_ln.out) ?_))
 refine (Hc3.out _).mono ?_
 rintro e w12 ⟨rfl, hbw12⟩
 have C13 := Hd (C10.out.gr hbw12)
 have C14 := Hd (D9.out.gr hbw12)
 have hbel15 := hbel11.trans (Below.mono hbw12 hbel11.size)
 clear C10 D9 hbel11 hbw12
 go_wp2_with (first | (refine stM rfl 26 (.tmp 7) (.tmp 28) rfl w12 rfl (natsV .u64 ld) rfl 26 (natsV .u64 (zeros 4)) (i24 L_ld.out) (lz4 L_ld.out) n1' ?_; intro w16 hgw16 hnw16; have C19 := Hd (C13.out.gr hgw16); clear C13; have C20 := Hd (C14.out.gr hgw16); clear C14; have hbel21 := hbel15.trans (Below.mono hgw16 hbel15.size); clear hbel15; have D18 := Hd hnw16; clear hnw16 hgw16; generalize w12.heap.size = G17 at *) | (refine wpList_load_mid rfl 26 (.tmp 29) rfl w.heap.size 4 rfl (natsV .u64 lK) _ (sg_y (C19.out) L_lD.out) Tryz.underlying26 rfl (i24 L_lK.out) ?_) | (refine wpList_load_mid rfl 26 (.tmp 6) rfl G8 0 rfl (natsV .u64 ln) _ (blk_all (C20.out)) Tryz.underlying26 rfl (i24 L_ln.out) ?_))
 refine (Hc4.out _).mono ?_
 rintro e w22 ⟨rfl, hbw22⟩
 have C23 := Hd (C19.out.gr hbw22)
 have C24 := Hd (C20.out.gr hbw22)
 have C25 := Hd (D18.out.gr hbw22)
 have hbel26 := hbel21.trans (Below.mono hbw22 hbel21.size)
 have qa := Q1.out
 have qb := Q2.out
 clear C19 C20 D18 hbel21 hbw22
 go_wp2_with (first | (refine stM rfl 26 (.tmp 8) (.tmp 32) rfl w22 rfl (natsV .u64 lk) rfl 26 (natsV .u64 (zeros 4)) (i24 L_lk.out) (lz4 L_lk.out) n1' ?_; intro w27 hgw27 hnw27; have C30 := Hd (C23.out.gr hgw27); clear C23; have C31 := Hd (C24.out.gr hgw27); clear C24; have C32 := Hd (C25.out.gr hgw27); clear C25; have hbel33 := hbel26.trans (Below.mono hgw27 hbel26.size); clear hbel26; have D29 := Hd hnw27; clear hnw27 hgw27; generalize w22.heap.size = G28 at *) | (refine stM rfl 26 (.tmp 9) (.tmp 33) rfl w27 rfl (natsV .u64 (zeros 4)) rfl 26 (natsV .u64 (zeros 4)) (i24 z4l) (lz4 z4l) n1' ?_; intro w34 hgw34 hnw34; have C37 := Hd (C30.out.gr hgw34); clear C30; have C38 := Hd (C31.out.gr hgw34); clear C31; have C39 := Hd (C32.out.gr hgw34); clear C32; have C40 := Hd (D29.out.gr hgw34); clear D29; have hbel41 := hbel33.trans (Below.mono hgw34 hbel33.size); clear hbel33; have D36 := Hd hnw34; clear hnw34 hgw34; generalize w27.heap.size = G35 at *) | (refine wpList_load_mid rfl 26 (.tmp 7) rfl G17 0 rfl (natsV .u64 ld) _ (blk_all (C39.out)) Tryz.underlying26 rfl (i24 L_ld.out) ?_) | (refine wpList_load_mid rfl 26 (.tmp 9) rfl G35 0 rfl (natsV .u64 (zeros 4)) _ (blk_all (D36.out)) Tryz.underlying26 rfl (i24 z4l) ?_) | (refine ldwM 26 (.tmp 8) rfl G28 0 rfl (natsV .u64 lk) _ (blk_all (C40.out)) Tryz.underlying26 rfl (i24 L_lk.out) 3 false rfl 37 rfl rfl ?_) | (refine ldwM 26 (.tmp 9) rfl G35 0 rfl (natsV .u64 (zeros 4)) _ (blk_all (D36.out)) Tryz.underlying26 rfl (i24 z4l) 3 false rfl 37 rfl rfl ?_))
 go_ret
 exact ⟨rfl, hbel41⟩
theorem wbound_no {lD lK ln ld lk gx gy qx qy : List Nat} {A A2 : Option Addr} {n c n2 e2 m : Nat} {l l2 : List Nat} {E L dg B : List Nat} (w : World) (hlD : lD.length = 4) (hlK : lK.length = 4) (hln : ln.length = 4) (hld : ld.length = 4) (hlk : lk.length = 4) (hgx : gx.length = 4) (hgy : gy.length = 4) (hqx : qx.length = 4) (hqy : qy.length = 4)
   (z1 : ¬ ld = zeros 4)
   (z2 : ¬ lk = zeros 4)
   (hB : BIn w A n c l)
   (hm : m = min n 32)
   (hdg : dg = l.take m ++ zeros (32 - m))
   (hsg : ∀ S W, BIn W S 32 32 dg → Calls Tryz.prog 19 #[.agg (natsV .u64 ld).toArray, .agg (natsV .u64 lk).toArray, .slice S 32 32] W fun e w' => e = .returned (.tuple #[.slice none 0 0, .bool false]) ∧ Below W.heap.size W w')
   (hE : ∀ z ∈ E, z < 256)
   (hen : ∀ w, Calls Tryz.prog 22 #[.agg (pv qx qy false).toArray] w (ListOwn 65 E w))
   (c1 : Ans 6 #[] (.bool true))
   (c2 : Ans 17 #[] (.agg (natsV .u64 ln).toArray))
   (c3 : Ans 18 #[.agg (natsV .u64 lD).toArray, .bool false, .agg (natsV .u64 ln).toArray] (.agg (natsV .u64 ld).toArray))
   (c4 : Ans 18 #[.agg (natsV .u64 lK).toArray, .bool false, .agg (natsV .u64 ln).toArray] (.agg (natsV .u64 lk).toArray))
   (c5 : Ans 21 #[] (.agg (pv gx gy false).toArray))
   (c6 : Ans 20 #[.agg (natsV .u64 ld).toArray, .agg (pv gx gy false).toArray] (.tuple #[.agg (pv qx qy false).toArray, .int .i64 0])) :
   Calls Tryz.prog 5 #[.agg (sgv lD lK (.slice A n c)).toArray, .slice A2 n2 e2] w fun e w' => e = .returned (.bool true) ∧ Below w.heap.size w w' := by
 have L_lD := Hd hlD
 have L_lK := Hd hlK
 have L_ln := Hd hln
 have L_ld := Hd hld
 have L_lk := Hd hlk
 have L_gx := Hd hgx
 have L_gy := Hd hgy
 have L_qx := Hd hqx
 have L_qy := Hd hqy
 have Hc1 := Hd c1
 have Hc2 := Hd c2
 have Hc3 := Hd c3
 have Hc4 := Hd c4
 have Hc5 := Hd c5
 have Hc6 := Hd c6
 have Q1 := Hd (fun w => (eql24 ld (zeros 4) L_ld.out rfl w).trans (by rw [decide_eq_false z1]))
 have Q2 := Hd (fun w => (eql24 lk (zeros 4) L_lk.out rfl w).trans (by rw [decide_eq_false z2]))
 have HBI := Hd hB
 have HSG := Hd hsg
 have HE := Hd hE
 have HEN := Hd hen
 clear hlD hlK hln hld hlk hgx hgy hqx hqy c1 c2 c3 c4 c5 c6 z1 z2
 have hmn : m ≤ n := by omega
 have hm32 : m ≤ 32 := by omega
 have HN := Hd (show (natsV .u8 (l.take m)).length = Nat.min n 32 by rw [natsV_length, List.length_take, hB.1.1]; show _ = min n 32; omega)
 have HFIT := Hd (show 0 + (natsV .u8 (l.take m)).length ≤ (natsV .u8 (zeros 32)).length by rw [natsV_length, List.length_take, hB.1.1, natsV_length]; simp [zeros]; omega)
 have HSP := Hd ((splice_f m (l.take m) hm32 (by rw [List.length_take, hB.1.1]; omega)).trans (by rw [← hdg]))
 have LDG := Hd (show dg.length = 32 by rw [hdg, List.length_append, List.length_take, hB.1.1]; simp [zeros]; omega)
 have HDB := Hd (show ∀ z ∈ dg, z < 256 from fun z hz => by rw [hdg] at hz; rcases List.mem_append.1 hz with h | h; exact hB.1.2.2.1 z (List.mem_of_mem_take h); rw [List.eq_of_mem_replicate h]; decide)
 have hcB := hB.2.2.1
 unfold maxLen at hcB
 have HMN := Hd hmn
 have B0_ := Hd (Blk.new w  42 (sgv lD lK (.slice A n c)))
 have bel_ := ((Below.refl w.heap.size w).alloc (Nat.le_refl _) (.cells (sgv lD lK (.slice A n c)).toArray 42))
 clear hB hsg hE hen hm hdg hmn hm32
 go_enter Tryz.func5, Tryz.ntmps5
 go_wp2_with fail
 refine (Hc1.out _).mono ?_
 rintro e w1 ⟨rfl, hbw1⟩
 have C2 := Hd (B0_.out.gr hbw1)
 have hbel3 := bel_.trans (Below.mono hbw1 bel_.size)
 clear B0_ bel_ hbw1
 go_wp2_with fail
 refine (Hc2.out _).mono ?_
 rintro e w4 ⟨rfl, hbw4⟩
 have C5 := Hd (C2.out.gr hbw4)
 have hbel6 := hbel3.trans (Below.mono hbw4 hbel3.size)
 clear C2 hbel3 hbw4
 go_wp2_with (first | (refine stM rfl 26 (.tmp 6) (.tmp 24) rfl w4 rfl (natsV .u64 ln) rfl 26 (natsV .u64 (zeros 4)) (i24 L_ln.out) (lz4 L_ln.out) n1' ?_; intro w7 hgw7 hnw7; have C10 := Hd (C5.out.gr hgw7); clear C5; have hbel11 := hbel6.trans (Below.mono hgw7 hbel6.size); clear hbel6; have D9 := Hd hnw7; clear hnw7 hgw7; generalize w4.heap.size = G8 at *) | (refine wpList_load_mid rfl 26 (.tmp 25) rfl w.heap.size 0 rfl (natsV .u64 lD) _ (sg_x (C10.out)) Tryz.underlying26 rfl (i24 L_lD.out) ?_) | (refine wpList_load_mid rfl 26 (.tmp 6) rfl G8 0 rfl (natsV .u64 ln) _ (blk_all (D9.out)) Tryz.underlying26 rfl (i24 L_ln.out) ?_))
 refine (Hc3.out _).mono ?_
 rintro e w12 ⟨rfl, hbw12⟩
 have C13 := Hd (C10.out.gr hbw12)
 have C14 := Hd (D9.out.gr hbw12)
 have hbel15 := hbel11.trans (Below.mono hbw12 hbel11.size)
 clear C10 D9 hbel11 hbw12
 go_wp2_with (first | (refine stM rfl 26 (.tmp 7) (.tmp 28) rfl w12 rfl (natsV .u64 ld) rfl 26 (natsV .u64 (zeros 4)) (i24 L_ld.out) (lz4 L_ld.out) n1' ?_; intro w16 hgw16 hnw16; have C19 := Hd (C13.out.gr hgw16); clear C13; have C20 := Hd (C14.out.gr hgw16); clear C14; have hbel21 := hbel15.trans (Below.mono hgw16 hbel15.size); clear hbel15; have D18 := Hd hnw16; clear hnw16 hgw16; generalize w12.heap.size = G17 at *) | (refine wpList_load_mid rfl 26 (.tmp 29) rfl w.heap.size 4 rfl (natsV .u64 lK) _ (sg_y (C19.out) L_lD.out) Tryz.underlying26 rfl (i24 L_lK.out) ?_) | (refine wpList_load_mid rfl 26 (.tmp 6) rfl G8 0 rfl (natsV .u64 ln) _ (blk_all (C20.out)) Tryz.underlying26 rfl (i24 L_ln.out) ?_))
 refine (Hc4.out _).mono ?_
 rintro e w22 ⟨rfl, hbw22⟩
 have C23 := Hd (C19.out.gr hbw22)
 have C24 := Hd (C20.out.gr hbw22)
 have C25 := Hd (D18.out.gr hbw22)
 have hbel26 := hbel21.trans (Below.mono hbw22 hbel21.size)
 have qa := Q1.out
 have qb := Q2.out
 have hm_ := hmk32
 clear C19 C20 D18 hbel21 hbw22
 go_wp2_with (first | (refine stM rfl 26 (.tmp 8) (.tmp 32) rfl w22 rfl (natsV .u64 lk) rfl 26 (natsV .u64 (zeros 4)) (i24 L_lk.out) (lz4 L_lk.out) n1' ?_; intro w27 hgw27 hnw27; have C30 := Hd (C23.out.gr hgw27); clear C23; have C31 := Hd (C24.out.gr hgw27); clear C24; have C32 := Hd (C25.out.gr hgw27); clear C25; have hbel33 := hbel26.trans (Below.mono hgw27 hbel26.size); clear hbel26; have D29 := Hd hnw27; clear hnw27 hgw27; generalize w22.heap.size = G28 at *) | (refine stM rfl 26 (.tmp 9) (.tmp 33) rfl w27 rfl (natsV .u64 (zeros 4)) rfl 26 (natsV .u64 (zeros 4)) (i24 z4l) (lz4 z4l) n1' ?_; intro w34 hgw34 hnw34; have C37 := Hd (C30.out.gr hgw34); clear C30; have C38 := Hd (C31.out.gr hgw34); clear C31; have C39 := Hd (C32.out.gr hgw34); clear C32; have C40 := Hd (D29.out.gr hgw34); clear D29; have hbel41 := hbel33.trans (Below.mono hgw34 hbel33.size); clear hbel33; have D36 := Hd hnw34; clear hnw34 hgw34; generalize w27.heap.size = G35 at *; have cs8 := alloc_cell (sg_s (C37.out) L_lD.out L_lK.out) (.cells (natsV .u8 (zeros 32)).toArray 5)) | (refine wpList_load_mid rfl 26 (.tmp 7) rfl G17 0 rfl (natsV .u64 ld) _ (blk_all (C39.out)) Tryz.underlying26 rfl (i24 L_ld.out) ?_) | (refine wpList_load_mid rfl 26 (.tmp 9) rfl G35 0 rfl (natsV .u64 (zeros 4)) _ (blk_all (D36.out)) Tryz.underlying26 rfl (i24 z4l) ?_) | (refine ldwM 26 (.tmp 8) rfl G28 0 rfl (natsV .u64 lk) _ (blk_all (C40.out)) Tryz.underlying26 rfl (i24 L_lk.out) 3 false rfl 37 rfl rfl ?_) | (refine ldwM 26 (.tmp 9) rfl G35 0 rfl (natsV .u64 (zeros 4)) _ (blk_all (D36.out)) Tryz.underlying26 rfl (i24 z4l) 3 false rfl 37 rfl rfl ?_) | (have HBK := Hd (Blk.new w34 5 (natsV .u8 (zeros 32))); have bW := (Below.refl w34.heap.size w34).alloc (Nat.le_refl _) (.cells (natsV .u8 (zeros 32)).toArray 5); have HSRC := Hd (srcA_of (HBI.out.below (hbel41.trans (bW.mono hbel41.size))) HMN.out); refine wpList_copy_blk rfl (.tmp 44) (.tmp 46) 22 22 rfl 5 Tryz.underlying22 info5z (some ⟨w34.heap.size, 0, none⟩) A 32 32 n c rfl rfl w34.heap.size 0 (natsV .u8 (zeros 32)) 5 HBK.out (natsV .u8 (l.take m)) HN.out (fun h => ⟨rfl, HSRC.out h⟩) HFIT.out n1' ?_))
 intro wc hb4 hg4
 rw [HSP.out] at hb4
 have hgr := grown_new (r := none) (grown_trans (grown_below bW _) hg4) (Nat.le_refl _)
 have C42 := Hd (C37.out.gr hgr)
 have C43 := Hd (C38.out.gr hgr)
 have C44 := Hd (C39.out.gr hgr)
 have C45 := Hd (C40.out.gr hgr)
 have C46 := Hd (D36.out.gr hgr)
 have hbel47 := hbel41.trans (Below.mono hgr hbel41.size)
 have HDG := Hd (blk_bin (m := 32) hb4 LDG.out (by decide) HDB.out)
 clear C37 C38 C39 C40 D36 hbel41 hb4 hg4 bW HSRC HBK cs8 hm_ hgr
 generalize w34.heap.size = Gd at *
 go_wp2_with (first | (refine wpList_load_mid rfl 26 (.tmp 7) rfl G17 0 rfl (natsV .u64 ld) _ (blk_all (C44.out)) Tryz.underlying26 rfl (i24 L_ld.out) ?_) | (refine wpList_load_mid rfl 26 (.tmp 8) rfl G28 0 rfl (natsV .u64 lk) _ (blk_all (C45.out)) Tryz.underlying26 rfl (i24 L_lk.out) ?_))
 refine (HSG.out _ _ HDG.out).mono ?_
 rintro e wS ⟨rfl, hbS⟩
 have C48 := Hd (C42.out.gr hbS)
 have C49 := Hd (C43.out.gr hbS)
 have C50 := Hd (C44.out.gr hbS)
 have C51 := Hd (C45.out.gr hbS)
 have C52 := Hd (C46.out.gr hbS)
 have C53 := Hd (HDG.out.gr hbS)
 have hbel54 := hbel47.trans (Below.mono hbS hbel47.size)
 clear C42 C43 C44 C45 C46 HDG hbel47 hbS
 go_wp2_with fail
 as_aux_lemma =>
 refine wp_region_G (fun w_ => Blk w_ G17 26 (natsV .u64 ld)) 9 (by kernel_rfl) C50.out.drew ?_
 refine tk gS1 0 rfl (lg' (fun _ hS_ => blk_all (hS_)) Tryz.underlying26 (i24 L_ld.out)) ?_
 try simp only [Act.put, zq]
 refine tk gS1 1 rfl (cg' Tryz.func21 (fun W_ _ => Hc5.out W_)) ?_
 try simp only [Act.put, zq]
 refine tk gS1 2 rfl (cg' Tryz.func20 (fun W_ _ => Hc6.out W_)) ?_
 try simp only [Act.put, zq]
 refine tkp gS1 3 rfl ?_
 try simp only [Act.put, zq]
 refine tkp gS1 4 rfl ?_
 try simp only [Act.put, zq]
 refine tkp gS1 5 rfl ?_
 try simp only [Act.put, zq]
 refine wpAnyG_alloc (i := 6) gS1 (by kernel_rfl) rfl (allocG (by rfl) rfl _ alloc43) ?_
 intro w55 G56 hgw55 hz_ hn_
 try simp only [Act.put, zq]
 have NG57 := Hd (Nat.ne_of_lt (Nat.lt_of_lt_of_le C50.out.drew.lt hz_))
 have NE58 := Hd (Nat.ne_of_lt (Nat.lt_of_lt_of_le C48.out.drew.lt hz_))
 have NE59 := Hd (Nat.ne_of_lt (Nat.lt_of_lt_of_le C49.out.drew.lt hz_))
 have NE60 := Hd (Nat.ne_of_lt (Nat.lt_of_lt_of_le C50.out.drew.lt hz_))
 have NE61 := Hd (Nat.ne_of_lt (Nat.lt_of_lt_of_le C51.out.drew.lt hz_))
 have NE62 := Hd (Nat.ne_of_lt (Nat.lt_of_lt_of_le C52.out.drew.lt hz_))
 have NE63 := Hd (Nat.ne_of_lt (Nat.lt_of_lt_of_le (bin_lt C53.out.drew) hz_))
 have GE64 := Hd (Nat.le_trans hbel54.drew.size hz_)
 have E65 := Hd (C48.out.drew.gr hgw55)
 have E66 := Hd (C49.out.drew.gr hgw55)
 have E67 := Hd (C50.out.drew.gr hgw55)
 have E68 := Hd (C51.out.drew.gr hgw55)
 have E69 := Hd (C52.out.drew.gr hgw55)
 have E70 := Hd (C53.out.drew.gr hgw55)
 have hbel71 := hbel54.drew.trans (Below.mono hgw55 hbel54.drew.size)
 have D72 := Hd hn_
 clear C48 C49 C50 C51 C52 C53 hbel54 hn_ hz_ hgw55
 refine wpAnyG_store (i := 7) (by kernel_rfl) rfl D72.out (lenEq pz9 (pv_len L_qx.out L_qy.out)) (StoresG.mk (cs := (pv qx qy false)) (by rfl) 28 _ _ rfl rfl rfl (i43 L_qx.out L_qy.out) p1_) (.inr (fun _ hS_ => hS_.row _ (NG57.out))) ?_
 intro w73 hgw73 hn_
 try simp only [Act.put, zq]
 have E74 := Hd (E65.out.grown hgw73 (fun e => NE58.out (Option.some.inj e)))
 have E75 := Hd (E66.out.grown hgw73 (fun e => NE59.out (Option.some.inj e)))
 have E76 := Hd (E67.out.grown hgw73 (fun e => NE60.out (Option.some.inj e)))
 have E77 := Hd (E68.out.grown hgw73 (fun e => NE61.out (Option.some.inj e)))
 have E78 := Hd (E69.out.grown hgw73 (fun e => NE62.out (Option.some.inj e)))
 clear E65 E66 E67 E68 E69
 have E79 := Hd (E70.out.grown hgw73 (fun b_ hb_ _ => by cases hb_; exact NE63.out))
 have D80 := Hd hn_
 have hbel81 := belStore hbel71 hgw73 (GE64.out)
 clear E70 hn_ D72 hgw73
 refine tkp gS1 8 rfl ?_
 try simp only [Act.put, zq]
 refine wpAnyG_done (by kernel_rfl) ?_ _
 intro w82 hgw82
 try simp only [Act.put, zq]
 have C83 := Hd (E74.out.gr hgw82)
 have C84 := Hd (E75.out.gr hgw82)
 have C85 := Hd (E76.out.gr hgw82)
 have C86 := Hd (E77.out.gr hgw82)
 have C87 := Hd (E78.out.gr hgw82)
 have C88 := Hd (E79.out.gr hgw82)
 have C89 := Hd (D80.out.gr hgw82)
 have hbel90 := hbel81.trans (Below.mono hgw82 hbel81.size)
 clear E74 E75 E76 E77 E78 E79 D80 hbel81 hgw82
 as_aux_lemma =>
 go_wp2_with (first | (refine wpList_load_mid rfl 28 (.tmp 13) rfl G56 0 rfl (pv qx qy false) _ (blk_all (C89.out)) Tryz.underlying28 rfl (i43 L_qx.out L_qy.out) ?_))
 refine (HEN.out _).mono ?_
 rintro e w91 ⟨Ga, ca, rfl, ow91, hbw91⟩
 have C92 := Hd (C83.out.gr hbw91)
 have C93 := Hd (C84.out.gr hbw91)
 have C94 := Hd (C85.out.gr hbw91)
 have C95 := Hd (C86.out.gr hbw91)
 have C96 := Hd (C87.out.gr hbw91)
 have C97 := Hd (C88.out.gr hbw91)
 have C98 := Hd (C89.out.gr hbw91)
 have hbel99 := hbel90.trans (Below.mono hbw91 hbel90.size)
 have HBa := Hd (own_bin ow91 HE.out (by decide))
 clear C83 C84 C85 C86 C87 C88 C89 hbel90 ow91 hbw91
 go_wp2_with fail
 go_ret
 exact ⟨rfl, hbel99⟩
theorem wbound_o0 {lD lK ln ld lk gx gy qx qy lm lp : List Nat} {A A2 : Option Addr} {n c n2 e2 m : Nat} {l l2 : List Nat} {E L dg B : List Nat} (w : World) (hlD : lD.length = 4) (hlK : lK.length = 4) (hln : ln.length = 4) (hld : ld.length = 4) (hlk : lk.length = 4) (hgx : gx.length = 4) (hgy : gy.length = 4) (hqx : qx.length = 4) (hqy : qy.length = 4) (hlm : lm.length = 4) (hlp : lp.length = 4)
   (z1 : ¬ ld = zeros 4)
   (z2 : ¬ lk = zeros 4)
   (hB : BIn w A n c l)
   (hm : m = min n 32)
   (hdg : dg = l.take m ++ zeros (32 - m))
   (hsg : ∀ S W, BIn W S 32 32 dg → Calls Tryz.prog 19 #[.agg (natsV .u64 ld).toArray, .agg (natsV .u64 lk).toArray, .slice S 32 32] W (SignIs L W))
   (hE : ∀ z ∈ E, z < 256)
   (hen : ∀ w, Calls Tryz.prog 22 #[.agg (pv qx qy false).toArray] w (ListOwn 65 E w))
   (hB2 : BIn w A2 n2 e2 l2)
   (hn2 : n2 ≤ 140737488351232)
   (hL : ∀ z ∈ L, z < 256)
   (hof : ∀ S W, BIn W S 32 32 dg → Calls Tryz.prog 23 #[.slice S 32 32] W fun e w' => e = .returned (.agg (natsV .u64 lm).toArray) ∧ Below W.heap.size W w')
   (hv1 : ∀ S1 k1 S2 S3 k3 W, BIn W S1 65 k1 E → BIn W S2 32 32 dg → BIn W S3 64 k3 L → Calls Tryz.prog 14 #[.slice S1 65 k1, .slice S2 32 32, .slice S3 64 k3] W fun e w' => e = .returned (.int .i64 0) ∧ Below W.heap.size W w')
   (hv2 : ∀ S1 k1 S2 k2 S3 k3 W, BIn W S1 65 k1 E → BIn W S2 (32 + n2) k2 (dg ++ l2) → BIn W S3 64 k3 L → Calls Tryz.prog 14 #[.slice S1 65 k1, .slice S2 (32 + n2) k2, .slice S3 64 k3] W fun e w' => e = .returned (.int .i64 0) ∧ Below W.heap.size W w')
   (hBl : B.length = 32)
   (hBb : ∀ z ∈ B, z < 256)
   (hv3 : ∀ S1 k1 S2 S3 k3 W, BIn W S1 65 k1 E → BIn W S2 32 32 B → BIn W S3 64 k3 L → Calls Tryz.prog 14 #[.slice S1 65 k1, .slice S2 32 32, .slice S3 64 k3] W fun e w' => e = .returned (.int .i64 0) ∧ Below W.heap.size W w')
   (c1 : Ans 6 #[] (.bool true))
   (c2 : Ans 17 #[] (.agg (natsV .u64 ln).toArray))
   (c3 : Ans 18 #[.agg (natsV .u64 lD).toArray, .bool false, .agg (natsV .u64 ln).toArray] (.agg (natsV .u64 ld).toArray))
   (c4 : Ans 18 #[.agg (natsV .u64 lK).toArray, .bool false, .agg (natsV .u64 ln).toArray] (.agg (natsV .u64 lk).toArray))
   (c5 : Ans 21 #[] (.agg (pv gx gy false).toArray))
   (c6 : Ans 20 #[.agg (natsV .u64 ld).toArray, .agg (pv gx gy false).toArray] (.tuple #[.agg (pv qx qy false).toArray, .int .i64 0]))
   (c7 : Ans 24 #[.agg (natsV .u64 lm).toArray, .agg (natsV .u64 ln).toArray] (.tuple #[.agg (natsV .u64 lp).toArray, .int .i64 0]))
   (c8 : Ans 25 #[.agg (natsV .u64 lp).toArray] (.agg (natsV .u8 B).toArray)) :
   Calls Tryz.prog 5 #[.agg (sgv lD lK (.slice A n c)).toArray, .slice A2 n2 e2] w fun e w' => e = .returned (.bool true) ∧ Below w.heap.size w w' := by
 have L_lD := Hd hlD
 have L_lK := Hd hlK
 have L_ln := Hd hln
 have L_ld := Hd hld
 have L_lk := Hd hlk
 have L_gx := Hd hgx
 have L_gy := Hd hgy
 have L_qx := Hd hqx
 have L_qy := Hd hqy
 have L_lm := Hd hlm
 have L_lp := Hd hlp
 have Hc1 := Hd c1
 have Hc2 := Hd c2
 have Hc3 := Hd c3
 have Hc4 := Hd c4
 have Hc5 := Hd c5
 have Hc6 := Hd c6
 have Hc7 := Hd c7
 have Hc8 := Hd c8
 have Q1 := Hd (fun w => (eql24 ld (zeros 4) L_ld.out rfl w).trans (by rw [decide_eq_false z1]))
 have Q2 := Hd (fun w => (eql24 lk (zeros 4) L_lk.out rfl w).trans (by rw [decide_eq_false z2]))
 have HBI := Hd hB
 have HSG := Hd hsg
 have HE := Hd hE
 have HEN := Hd hen
 clear hlD hlK hln hld hlk hgx hgy hqx hqy hlm hlp c1 c2 c3 c4 c5 c6 c7 c8 z1 z2
 have hmn : m ≤ n := by omega
 have hm32 : m ≤ 32 := by omega
 have HN := Hd (show (natsV .u8 (l.take m)).length = Nat.min n 32 by rw [natsV_length, List.length_take, hB.1.1]; show _ = min n 32; omega)
 have HFIT := Hd (show 0 + (natsV .u8 (l.take m)).length ≤ (natsV .u8 (zeros 32)).length by rw [natsV_length, List.length_take, hB.1.1, natsV_length]; simp [zeros]; omega)
 have HSP := Hd ((splice_f m (l.take m) hm32 (by rw [List.length_take, hB.1.1]; omega)).trans (by rw [← hdg]))
 have LDG := Hd (show dg.length = 32 by rw [hdg, List.length_append, List.length_take, hB.1.1]; simp [zeros]; omega)
 have HDB := Hd (show ∀ z ∈ dg, z < 256 from fun z hz => by rw [hdg] at hz; rcases List.mem_append.1 hz with h | h; exact hB.1.2.2.1 z (List.mem_of_mem_take h); rw [List.eq_of_mem_replicate h]; decide)
 have hcB := hB.2.2.1
 unfold maxLen at hcB
 have HMN := Hd hmn
 have HB2_ := Hd hB2
 have HL := Hd hL
 have HOF := Hd hof
 have HV1 := Hd hv1
 have HV2 := Hd hv2
 have LN2 := Hd hB2.1.1
 have HB2l := Hd hB2.1.2.2.1
 have L_B := Hd hBl
 have HBb := Hd hBb
 have HV3 := Hd hv3
 have B0_ := Hd (Blk.new w  42 (sgv lD lK (.slice A n c)))
 have bel_ := ((Below.refl w.heap.size w).alloc (Nat.le_refl _) (.cells (sgv lD lK (.slice A n c)).toArray 42))
 clear hB hsg hE hen hm hdg hmn hm32 hB2 hL hof hv1 hv2 hBl hBb hv3
 go_enter Tryz.func5, Tryz.ntmps5
 go_wp2_with fail
 refine (Hc1.out _).mono ?_
 rintro e w1 ⟨rfl, hbw1⟩
 have C2 := Hd (B0_.out.gr hbw1)
 have hbel3 := bel_.trans (Below.mono hbw1 bel_.size)
 clear B0_ bel_ hbw1
 go_wp2_with fail
 refine (Hc2.out _).mono ?_
 rintro e w4 ⟨rfl, hbw4⟩
 have C5 := Hd (C2.out.gr hbw4)
 have hbel6 := hbel3.trans (Below.mono hbw4 hbel3.size)
 clear C2 hbel3 hbw4
 go_wp2_with (first | (refine stM rfl 26 (.tmp 6) (.tmp 24) rfl w4 rfl (natsV .u64 ln) rfl 26 (natsV .u64 (zeros 4)) (i24 L_ln.out) (lz4 L_ln.out) n1' ?_; intro w7 hgw7 hnw7; have C10 := Hd (C5.out.gr hgw7); clear C5; have hbel11 := hbel6.trans (Below.mono hgw7 hbel6.size); clear hbel6; have D9 := Hd hnw7; clear hnw7 hgw7; generalize w4.heap.size = G8 at *) | (refine wpList_load_mid rfl 26 (.tmp 25) rfl w.heap.size 0 rfl (natsV .u64 lD) _ (sg_x (C10.out)) Tryz.underlying26 rfl (i24 L_lD.out) ?_) | (refine wpList_load_mid rfl 26 (.tmp 6) rfl G8 0 rfl (natsV .u64 ln) _ (blk_all (D9.out)) Tryz.underlying26 rfl (i24 L_ln.out) ?_))
 refine (Hc3.out _).mono ?_
 rintro e w12 ⟨rfl, hbw12⟩
 have C13 := Hd (C10.out.gr hbw12)
 have C14 := Hd (D9.out.gr hbw12)
 have hbel15 := hbel11.trans (Below.mono hbw12 hbel11.size)
 clear C10 D9 hbel11 hbw12
 go_wp2_with (first | (refine stM rfl 26 (.tmp 7) (.tmp 28) rfl w12 rfl (natsV .u64 ld) rfl 26 (natsV .u64 (zeros 4)) (i24 L_ld.out) (lz4 L_ld.out) n1' ?_; intro w16 hgw16 hnw16; have C19 := Hd (C13.out.gr hgw16); clear C13; have C20 := Hd (C14.out.gr hgw16); clear C14; have hbel21 := hbel15.trans (Below.mono hgw16 hbel15.size); clear hbel15; have D18 := Hd hnw16; clear hnw16 hgw16; generalize w12.heap.size = G17 at *) | (refine wpList_load_mid rfl 26 (.tmp 29) rfl w.heap.size 4 rfl (natsV .u64 lK) _ (sg_y (C19.out) L_lD.out) Tryz.underlying26 rfl (i24 L_lK.out) ?_) | (refine wpList_load_mid rfl 26 (.tmp 6) rfl G8 0 rfl (natsV .u64 ln) _ (blk_all (C20.out)) Tryz.underlying26 rfl (i24 L_ln.out) ?_))
 refine (Hc4.out _).mono ?_
 rintro e w22 ⟨rfl, hbw22⟩
 have C23 := Hd (C19.out.gr hbw22)
 have C24 := Hd (C20.out.gr hbw22)
 have C25 := Hd (D18.out.gr hbw22)
 have hbel26 := hbel21.trans (Below.mono hbw22 hbel21.size)
 have qa := Q1.out
 have qb := Q2.out
 have hm_ := hmk32
 clear C19 C20 D18 hbel21 hbw22
 go_wp2_with (first | (refine stM rfl 26 (.tmp 8) (.tmp 32) rfl w22 rfl (natsV .u64 lk) rfl 26 (natsV .u64 (zeros 4)) (i24 L_lk.out) (lz4 L_lk.out) n1' ?_; intro w27 hgw27 hnw27; have C30 := Hd (C23.out.gr hgw27); clear C23; have C31 := Hd (C24.out.gr hgw27); clear C24; have C32 := Hd (C25.out.gr hgw27); clear C25; have hbel33 := hbel26.trans (Below.mono hgw27 hbel26.size); clear hbel26; have D29 := Hd hnw27; clear hnw27 hgw27; generalize w22.heap.size = G28 at *) | (refine stM rfl 26 (.tmp 9) (.tmp 33) rfl w27 rfl (natsV .u64 (zeros 4)) rfl 26 (natsV .u64 (zeros 4)) (i24 z4l) (lz4 z4l) n1' ?_; intro w34 hgw34 hnw34; have C37 := Hd (C30.out.gr hgw34); clear C30; have C38 := Hd (C31.out.gr hgw34); clear C31; have C39 := Hd (C32.out.gr hgw34); clear C32; have C40 := Hd (D29.out.gr hgw34); clear D29; have hbel41 := hbel33.trans (Below.mono hgw34 hbel33.size); clear hbel33; have D36 := Hd hnw34; clear hnw34 hgw34; generalize w27.heap.size = G35 at *; have cs8 := alloc_cell (sg_s (C37.out) L_lD.out L_lK.out) (.cells (natsV .u8 (zeros 32)).toArray 5)) | (refine wpList_load_mid rfl 26 (.tmp 7) rfl G17 0 rfl (natsV .u64 ld) _ (blk_all (C39.out)) Tryz.underlying26 rfl (i24 L_ld.out) ?_) | (refine wpList_load_mid rfl 26 (.tmp 9) rfl G35 0 rfl (natsV .u64 (zeros 4)) _ (blk_all (D36.out)) Tryz.underlying26 rfl (i24 z4l) ?_) | (refine ldwM 26 (.tmp 8) rfl G28 0 rfl (natsV .u64 lk) _ (blk_all (C40.out)) Tryz.underlying26 rfl (i24 L_lk.out) 3 false rfl 37 rfl rfl ?_) | (refine ldwM 26 (.tmp 9) rfl G35 0 rfl (natsV .u64 (zeros 4)) _ (blk_all (D36.out)) Tryz.underlying26 rfl (i24 z4l) 3 false rfl 37 rfl rfl ?_) | (have HBK := Hd (Blk.new w34 5 (natsV .u8 (zeros 32))); have bW := (Below.refl w34.heap.size w34).alloc (Nat.le_refl _) (.cells (natsV .u8 (zeros 32)).toArray 5); have HSRC := Hd (srcA_of (HBI.out.below (hbel41.trans (bW.mono hbel41.size))) HMN.out); refine wpList_copy_blk rfl (.tmp 44) (.tmp 46) 22 22 rfl 5 Tryz.underlying22 info5z (some ⟨w34.heap.size, 0, none⟩) A 32 32 n c rfl rfl w34.heap.size 0 (natsV .u8 (zeros 32)) 5 HBK.out (natsV .u8 (l.take m)) HN.out (fun h => ⟨rfl, HSRC.out h⟩) HFIT.out n1' ?_))
 intro wc hb4 hg4
 rw [HSP.out] at hb4
 have hgr := grown_new (r := none) (grown_trans (grown_below bW _) hg4) (Nat.le_refl _)
 have C42 := Hd (C37.out.gr hgr)
 have C43 := Hd (C38.out.gr hgr)
 have C44 := Hd (C39.out.gr hgr)
 have C45 := Hd (C40.out.gr hgr)
 have C46 := Hd (D36.out.gr hgr)
 have hbel47 := hbel41.trans (Below.mono hgr hbel41.size)
 have HDG := Hd (blk_bin (m := 32) hb4 LDG.out (by decide) HDB.out)
 clear C37 C38 C39 C40 D36 hbel41 hb4 hg4 bW HSRC HBK cs8 hm_ hgr
 generalize w34.heap.size = Gd at *
 go_wp2_with (first | (refine wpList_load_mid rfl 26 (.tmp 7) rfl G17 0 rfl (natsV .u64 ld) _ (blk_all (C44.out)) Tryz.underlying26 rfl (i24 L_ld.out) ?_) | (refine wpList_load_mid rfl 26 (.tmp 8) rfl G28 0 rfl (natsV .u64 lk) _ (blk_all (C45.out)) Tryz.underlying26 rfl (i24 L_lk.out) ?_))
 refine (HSG.out _ _ HDG.out).mono ?_
 rintro e wS ⟨Gs, ks, rfl, hS, hbS⟩
 have C48 := Hd (C42.out.gr hbS)
 have C49 := Hd (C43.out.gr hbS)
 have C50 := Hd (C44.out.gr hbS)
 have C51 := Hd (C45.out.gr hbS)
 have C52 := Hd (C46.out.gr hbS)
 have C53 := Hd (HDG.out.gr hbS)
 have hbel54 := hbel47.trans (Below.mono hbS hbel47.size)
 have HSI := Hd hS
 clear C42 C43 C44 C45 C46 HDG hbel47 hS hbS
 go_wp2_with fail
 as_aux_lemma =>
 refine wp_region_G (fun w_ => Blk w_ G17 26 (natsV .u64 ld)) 9 (by kernel_rfl) C50.out.drew ?_
 refine tk gS1 0 rfl (lg' (fun _ hS_ => blk_all (hS_)) Tryz.underlying26 (i24 L_ld.out)) ?_
 try simp only [Act.put, zq]
 refine tk gS1 1 rfl (cg' Tryz.func21 (fun W_ _ => Hc5.out W_)) ?_
 try simp only [Act.put, zq]
 refine tk gS1 2 rfl (cg' Tryz.func20 (fun W_ _ => Hc6.out W_)) ?_
 try simp only [Act.put, zq]
 refine tkp gS1 3 rfl ?_
 try simp only [Act.put, zq]
 refine tkp gS1 4 rfl ?_
 try simp only [Act.put, zq]
 refine tkp gS1 5 rfl ?_
 try simp only [Act.put, zq]
 refine wpAnyG_alloc (i := 6) gS1 (by kernel_rfl) rfl (allocG (by rfl) rfl _ alloc43) ?_
 intro w55 G56 hgw55 hz_ hn_
 try simp only [Act.put, zq]
 have NG57 := Hd (Nat.ne_of_lt (Nat.lt_of_lt_of_le C50.out.drew.lt hz_))
 have NE58 := Hd (Nat.ne_of_lt (Nat.lt_of_lt_of_le C48.out.drew.lt hz_))
 have NE59 := Hd (Nat.ne_of_lt (Nat.lt_of_lt_of_le C49.out.drew.lt hz_))
 have NE60 := Hd (Nat.ne_of_lt (Nat.lt_of_lt_of_le C50.out.drew.lt hz_))
 have NE61 := Hd (Nat.ne_of_lt (Nat.lt_of_lt_of_le C51.out.drew.lt hz_))
 have NE62 := Hd (Nat.ne_of_lt (Nat.lt_of_lt_of_le C52.out.drew.lt hz_))
 have NE63 := Hd (Nat.ne_of_lt (Nat.lt_of_lt_of_le (bin_lt C53.out.drew) hz_))
 have NE64 := Hd (Nat.ne_of_lt (Nat.lt_of_lt_of_le (bin_lt HSI.out.drew) hz_))
 have GE65 := Hd (Nat.le_trans hbel54.drew.size hz_)
 have E66 := Hd (C48.out.drew.gr hgw55)
 have E67 := Hd (C49.out.drew.gr hgw55)
 have E68 := Hd (C50.out.drew.gr hgw55)
 have E69 := Hd (C51.out.drew.gr hgw55)
 have E70 := Hd (C52.out.drew.gr hgw55)
 have E71 := Hd (C53.out.drew.gr hgw55)
 have E72 := Hd (HSI.out.drew.gr hgw55)
 have hbel73 := hbel54.drew.trans (Below.mono hgw55 hbel54.drew.size)
 have D74 := Hd hn_
 clear C48 C49 C50 C51 C52 C53 HSI hbel54 hn_ hz_ hgw55
 refine wpAnyG_store (i := 7) (by kernel_rfl) rfl D74.out (lenEq pz9 (pv_len L_qx.out L_qy.out)) (StoresG.mk (cs := (pv qx qy false)) (by rfl) 28 _ _ rfl rfl rfl (i43 L_qx.out L_qy.out) p1_) (.inr (fun _ hS_ => hS_.row _ (NG57.out))) ?_
 intro w75 hgw75 hn_
 try simp only [Act.put, zq]
 have E76 := Hd (E66.out.grown hgw75 (fun e => NE58.out (Option.some.inj e)))
 have E77 := Hd (E67.out.grown hgw75 (fun e => NE59.out (Option.some.inj e)))
 have E78 := Hd (E68.out.grown hgw75 (fun e => NE60.out (Option.some.inj e)))
 have E79 := Hd (E69.out.grown hgw75 (fun e => NE61.out (Option.some.inj e)))
 have E80 := Hd (E70.out.grown hgw75 (fun e => NE62.out (Option.some.inj e)))
 clear E66 E67 E68 E69 E70
 have E81 := Hd (E71.out.grown hgw75 (fun b_ hb_ _ => by cases hb_; exact NE63.out))
 clear E71
 have E82 := Hd (E72.out.grown hgw75 (fun b_ hb_ _ => by cases hb_; exact NE64.out))
 have D83 := Hd hn_
 have hbel84 := belStore hbel73 hgw75 (GE65.out)
 clear E72 hn_ D74 hgw75
 refine tkp gS1 8 rfl ?_
 try simp only [Act.put, zq]
 refine wpAnyG_done (by kernel_rfl) ?_ _
 intro w85 hgw85
 try simp only [Act.put, zq]
 have C86 := Hd (E76.out.gr hgw85)
 have C87 := Hd (E77.out.gr hgw85)
 have C88 := Hd (E78.out.gr hgw85)
 have C89 := Hd (E79.out.gr hgw85)
 have C90 := Hd (E80.out.gr hgw85)
 have C91 := Hd (E81.out.gr hgw85)
 have C92 := Hd (E82.out.gr hgw85)
 have C93 := Hd (D83.out.gr hgw85)
 have hbel94 := hbel84.trans (Below.mono hgw85 hbel84.size)
 clear E76 E77 E78 E79 E80 E81 E82 D83 hbel84 hgw85
 as_aux_lemma =>
 go_wp2_with (first | (refine wpList_load_mid rfl 28 (.tmp 13) rfl G56 0 rfl (pv qx qy false) _ (blk_all (C93.out)) Tryz.underlying28 rfl (i43 L_qx.out L_qy.out) ?_))
 refine (HEN.out _).mono ?_
 rintro e w95 ⟨Ga, ca, rfl, ow95, hbw95⟩
 have C96 := Hd (C86.out.gr hbw95)
 have C97 := Hd (C87.out.gr hbw95)
 have C98 := Hd (C88.out.gr hbw95)
 have C99 := Hd (C89.out.gr hbw95)
 have C100 := Hd (C90.out.gr hbw95)
 have C101 := Hd (C91.out.gr hbw95)
 have C102 := Hd (C92.out.gr hbw95)
 have C103 := Hd (C93.out.gr hbw95)
 have hbel104 := hbel94.trans (Below.mono hbw95 hbel94.size)
 have HBa := Hd (own_bin ow95 HE.out (by decide))
 clear C86 C87 C88 C89 C90 C91 C92 C93 hbel94 ow95 hbw95
 go_upto_region 15 with (fail)
 try simp only [Act.put, zq]
 have HZ := Hd (zero_row w95)
 have HX1 := Hd (C101.out.below ((Below.refl w95.heap.size w95).alloc (Nat.le_refl _) (.cells #[] 5)))
 go_wp2_with (at_builtin; refine wpList_append_bytes _ rfl _ _ rfl w95.heap.size (.slice (some ⟨w95.heap.size, 0, none⟩) 0 0) 0 [] rfl HZ.out (some ⟨Gd, 0, none⟩) 32 32 dg rfl HX1.out ?c1 ?c2 ?_)
 case c1 => omega
 case c2 => simp
 intro x1 u1 o1 g1
 have hb1 := ((Below.refl w95.heap.size w95).alloc (Nat.le_refl _) (.cells #[] 5)).grown g1 (by simp) (fun j hj => (HZ.out.lt j hj).1)
 have O1 := Hd (show u1.ownsRow w95.heap.size 5 1 x1 32 (bytesV dg) from by simpa [bytesV] using o1)
 have HX3 := Hd (HB2_.out.below (hbel104.trans (hb1.mono hbel104.size)))
 clear o1 g1 HX1
 go_wp2_with (at_builtin; refine wpList_append_bytes _ rfl _ _ rfl w95.heap.size x1 32 dg rfl O1.out A2 n2 e2 l2 rfl HX3.out ?d1 ?d2 ?_)
 case d1 => omega
 case d2 => exact hb1.size
 intro x2 u2 o2 g2
 have hb2 := hb1.grown g2 hb1.size (fun j hj => (O1.out.lt j hj).1)
 have o3 : u2.ownsRow w95.heap.size 5 1 x2 (32 + n2) (bytesV (dg ++ l2)) := by first | exact o2 | (simpa [bytesV] using o2)
 obtain ⟨Gl, kl, rfl, _⟩ := own_form o3 (by omega)
 have HLG := Hd (own_bin o3 (fun z hz => by rcases List.mem_append.1 hz with h | h; exact HDB.out z h; exact HB2l.out z h) (by omega))
 have C105 := Hd (C96.out.gr hb2)
 have C106 := Hd (C97.out.gr hb2)
 have C107 := Hd (C98.out.gr hb2)
 have C108 := Hd (C99.out.gr hb2)
 have C109 := Hd (C100.out.gr hb2)
 have C110 := Hd (C101.out.gr hb2)
 have C111 := Hd (C102.out.gr hb2)
 have C112 := Hd (C103.out.gr hb2)
 have C113 := Hd (HBa.out.gr hb2)
 have hbel114 := hbel104.trans (Below.mono hb2 hbel104.size)
 clear o2 o3 g2 O1 HX3 HZ C96 C97 C98 C99 C100 C101 C102 C103 HBa hbel104 hb1 hb2
 go_wp2_with fail
 refine (HOF.out _ _ C110.out).mono ?_
 rintro e w115 ⟨rfl, hbw115⟩
 have C116 := Hd (C105.out.gr hbw115)
 have C117 := Hd (C106.out.gr hbw115)
 have C118 := Hd (C107.out.gr hbw115)
 have C119 := Hd (C108.out.gr hbw115)
 have C120 := Hd (C109.out.gr hbw115)
 have C121 := Hd (C110.out.gr hbw115)
 have C122 := Hd (C111.out.gr hbw115)
 have C123 := Hd (C112.out.gr hbw115)
 have C124 := Hd (C113.out.gr hbw115)
 have C125 := Hd (HLG.out.gr hbw115)
 have hbel126 := hbel114.trans (Below.mono hbw115 hbel114.size)
 clear C105 C106 C107 C108 C109 C110 C111 C112 C113 HLG hbel114 hbw115
 go_wp2_with (first | (refine stM rfl 26 (.tmp 18) (.tmp 75) rfl w115 rfl (natsV .u64 lm) rfl 26 (natsV .u64 (zeros 4)) (i24 L_lm.out) (lz4 L_lm.out) n1' ?_; intro w127 hgw127 hnw127; have NE130 := Hd (Nat.ne_of_lt (C123.out.lt)); have C131 := Hd (C116.out.gr hgw127); clear C116; have C132 := Hd (C117.out.gr hgw127); clear C117; have C133 := Hd (C118.out.gr hgw127); clear C118; have C134 := Hd (C119.out.gr hgw127); clear C119; have C135 := Hd (C120.out.gr hgw127); clear C120; have C136 := Hd (C121.out.gr hgw127); clear C121; have C137 := Hd (C122.out.gr hgw127); clear C122; have C138 := Hd (C123.out.gr hgw127); clear C123; have C139 := Hd (C124.out.gr hgw127); clear C124; have C140 := Hd (C125.out.gr hgw127); clear C125; have hbel141 := hbel126.trans (Below.mono hgw127 hbel126.size); clear hbel126; have D129 := Hd hnw127; clear hnw127 hgw127; generalize w115.heap.size = G128 at *) | (refine wpList_load_mid rfl 26 (.tmp 18) rfl G128 0 rfl (natsV .u64 lm) _ (blk_all (D129.out)) Tryz.underlying26 rfl (i24 L_lm.out) ?_) | (refine wpList_load_mid rfl 26 (.tmp 6) rfl G8 0 rfl (natsV .u64 ln) _ (blk_all (C132.out)) Tryz.underlying26 rfl (i24 L_ln.out) ?_))
 refine (Hc7.out _).mono ?_
 rintro e w142 ⟨rfl, hbw142⟩
 have C143 := Hd (C131.out.gr hbw142)
 have C144 := Hd (C132.out.gr hbw142)
 have C145 := Hd (C133.out.gr hbw142)
 have C146 := Hd (C134.out.gr hbw142)
 have C147 := Hd (C135.out.gr hbw142)
 have C148 := Hd (C136.out.gr hbw142)
 have C149 := Hd (C137.out.gr hbw142)
 have C150 := Hd (C138.out.gr hbw142)
 have C151 := Hd (C139.out.gr hbw142)
 have C152 := Hd (C140.out.gr hbw142)
 have C153 := Hd (D129.out.gr hbw142)
 have hbel154 := hbel141.trans (Below.mono hbw142 hbel141.size)
 clear C131 C132 C133 C134 C135 C136 C137 C138 C139 C140 D129 hbel141 hbw142
 go_wp2_with (first | (refine stM rfl 26 (.tmp 19) (.tmp 80) rfl w142 rfl (natsV .u64 lp) rfl 26 (natsV .u64 (zeros 4)) (i24 L_lp.out) (lz4 L_lp.out) n1' ?_; intro w155 hgw155 hnw155; have NE158 := Hd (Nat.ne_of_lt (C150.out.lt)); have C159 := Hd (C143.out.gr hgw155); clear C143; have C160 := Hd (C144.out.gr hgw155); clear C144; have C161 := Hd (C145.out.gr hgw155); clear C145; have C162 := Hd (C146.out.gr hgw155); clear C146; have C163 := Hd (C147.out.gr hgw155); clear C147; have C164 := Hd (C148.out.gr hgw155); clear C148; have C165 := Hd (C149.out.gr hgw155); clear C149; have C166 := Hd (C150.out.gr hgw155); clear C150; have C167 := Hd (C151.out.gr hgw155); clear C151; have C168 := Hd (C152.out.gr hgw155); clear C152; have C169 := Hd (C153.out.gr hgw155); clear C153; have hbel170 := hbel154.trans (Below.mono hgw155 hbel154.size); clear hbel154; have D157 := Hd hnw155; clear hnw155 hgw155; generalize w142.heap.size = G156 at *) | (refine wpList_load_mid rfl 26 (.tmp 19) rfl G156 0 rfl (natsV .u64 lp) _ (blk_all (D157.out)) Tryz.underlying26 rfl (i24 L_lp.out) ?_))
 refine (Hc8.out _).mono ?_
 rintro e w171 ⟨rfl, hbw171⟩
 have C172 := Hd (C159.out.gr hbw171)
 have C173 := Hd (C160.out.gr hbw171)
 have C174 := Hd (C161.out.gr hbw171)
 have C175 := Hd (C162.out.gr hbw171)
 have C176 := Hd (C163.out.gr hbw171)
 have C177 := Hd (C164.out.gr hbw171)
 have C178 := Hd (C165.out.gr hbw171)
 have C179 := Hd (C166.out.gr hbw171)
 have C180 := Hd (C167.out.gr hbw171)
 have C181 := Hd (C168.out.gr hbw171)
 have C182 := Hd (C169.out.gr hbw171)
 have C183 := Hd (D157.out.gr hbw171)
 have hbel184 := hbel170.trans (Below.mono hbw171 hbel170.size)
 clear C159 C160 C161 C162 C163 C164 C165 C166 C167 C168 C169 D157 hbel170 hbw171
 go_wp2_with (first | (refine stM rfl 53 (.tmp 22) (.tmp 85) rfl w171 rfl (natsV .u8 B) rfl 53 (natsV .u8 (zeros 32)) (i90 L_B.out) (lenEq (show (natsV .u8 (zeros 32)).length = 32 from rfl) (nl' L_B.out)) n1' ?_; intro w185 hgw185 hnw185; have NE188 := Hd (Nat.ne_of_lt (C179.out.lt)); have C189 := Hd (C172.out.gr hgw185); clear C172; have C190 := Hd (C173.out.gr hgw185); clear C173; have C191 := Hd (C174.out.gr hgw185); clear C174; have C192 := Hd (C175.out.gr hgw185); clear C175; have C193 := Hd (C176.out.gr hgw185); clear C176; have C194 := Hd (C177.out.gr hgw185); clear C177; have C195 := Hd (C178.out.gr hgw185); clear C178; have C196 := Hd (C179.out.gr hgw185); clear C179; have C197 := Hd (C180.out.gr hgw185); clear C180; have C198 := Hd (C181.out.gr hgw185); clear C181; have C199 := Hd (C182.out.gr hgw185); clear C182; have C200 := Hd (C183.out.gr hgw185); clear C183; have hbel201 := hbel184.trans (Below.mono hgw185 hbel184.size); clear hbel184; have D187 := Hd hnw185; clear hnw185 hgw185; generalize w171.heap.size = G186 at *))
 refine (HV3.out _ _ _ _ _ _ C197.out (bin_blk (D187.out) L_B.out HBb.out) C195.out).mono ?_
 rintro e w202 ⟨rfl, hbw202⟩
 have C203 := Hd (C189.out.gr hbw202)
 have C204 := Hd (C190.out.gr hbw202)
 have C205 := Hd (C191.out.gr hbw202)
 have C206 := Hd (C192.out.gr hbw202)
 have C207 := Hd (C193.out.gr hbw202)
 have C208 := Hd (C194.out.gr hbw202)
 have C209 := Hd (C195.out.gr hbw202)
 have C210 := Hd (C196.out.gr hbw202)
 have C211 := Hd (C197.out.gr hbw202)
 have C212 := Hd (C198.out.gr hbw202)
 have C213 := Hd (C199.out.gr hbw202)
 have C214 := Hd (C200.out.gr hbw202)
 have C215 := Hd (D187.out.gr hbw202)
 have hbel216 := hbel201.trans (Below.mono hbw202 hbel201.size)
 clear C189 C190 C191 C192 C193 C194 C195 C196 C197 C198 C199 C200 D187 hbel201 hbw202
 go_wp2_with fail
 refine (HV1.out _ _ _ _ _ _ C211.out C208.out C209.out).mono ?_
 rintro e w217 ⟨rfl, hbw217⟩
 have C218 := Hd (C203.out.gr hbw217)
 have C219 := Hd (C204.out.gr hbw217)
 have C220 := Hd (C205.out.gr hbw217)
 have C221 := Hd (C206.out.gr hbw217)
 have C222 := Hd (C207.out.gr hbw217)
 have C223 := Hd (C208.out.gr hbw217)
 have C224 := Hd (C209.out.gr hbw217)
 have C225 := Hd (C210.out.gr hbw217)
 have C226 := Hd (C211.out.gr hbw217)
 have C227 := Hd (C212.out.gr hbw217)
 have C228 := Hd (C213.out.gr hbw217)
 have C229 := Hd (C214.out.gr hbw217)
 have C230 := Hd (C215.out.gr hbw217)
 have hbel231 := hbel216.trans (Below.mono hbw217 hbel216.size)
 clear C203 C204 C205 C206 C207 C208 C209 C210 C211 C212 C213 C214 C215 hbel216 hbw217
 go_wp2_with fail
 refine (HV2.out _ _ _ _ _ _ _ C226.out C227.out C224.out).mono ?_
 rintro e w232 ⟨rfl, hbw232⟩
 have C233 := Hd (C218.out.gr hbw232)
 have C234 := Hd (C219.out.gr hbw232)
 have C235 := Hd (C220.out.gr hbw232)
 have C236 := Hd (C221.out.gr hbw232)
 have C237 := Hd (C222.out.gr hbw232)
 have C238 := Hd (C223.out.gr hbw232)
 have C239 := Hd (C224.out.gr hbw232)
 have C240 := Hd (C225.out.gr hbw232)
 have C241 := Hd (C226.out.gr hbw232)
 have C242 := Hd (C227.out.gr hbw232)
 have C243 := Hd (C228.out.gr hbw232)
 have C244 := Hd (C229.out.gr hbw232)
 have C245 := Hd (C230.out.gr hbw232)
 have hbel246 := hbel231.trans (Below.mono hbw232 hbel231.size)
 clear C218 C219 C220 C221 C222 C223 C224 C225 C226 C227 C228 C229 C230 hbel231 hbw232
 go_wp2_with fail
 go_ret
 exact ⟨rfl, hbel246⟩
theorem wbound_o1 {lD lK ln ld lk gx gy qx qy lm lp : List Nat} {A A2 : Option Addr} {n c n2 e2 m : Nat} {l l2 : List Nat} {E L dg B : List Nat} (w : World) (hlD : lD.length = 4) (hlK : lK.length = 4) (hln : ln.length = 4) (hld : ld.length = 4) (hlk : lk.length = 4) (hgx : gx.length = 4) (hgy : gy.length = 4) (hqx : qx.length = 4) (hqy : qy.length = 4) (hlm : lm.length = 4) (hlp : lp.length = 4)
   (z1 : ¬ ld = zeros 4)
   (z2 : ¬ lk = zeros 4)
   (hB : BIn w A n c l)
   (hm : m = min n 32)
   (hdg : dg = l.take m ++ zeros (32 - m))
   (hsg : ∀ S W, BIn W S 32 32 dg → Calls Tryz.prog 19 #[.agg (natsV .u64 ld).toArray, .agg (natsV .u64 lk).toArray, .slice S 32 32] W (SignIs L W))
   (hE : ∀ z ∈ E, z < 256)
   (hen : ∀ w, Calls Tryz.prog 22 #[.agg (pv qx qy false).toArray] w (ListOwn 65 E w))
   (hB2 : BIn w A2 n2 e2 l2)
   (hn2 : n2 ≤ 140737488351232)
   (hL : ∀ z ∈ L, z < 256)
   (hof : ∀ S W, BIn W S 32 32 dg → Calls Tryz.prog 23 #[.slice S 32 32] W fun e w' => e = .returned (.agg (natsV .u64 lm).toArray) ∧ Below W.heap.size W w')
   (hv1 : ∀ S1 k1 S2 S3 k3 W, BIn W S1 65 k1 E → BIn W S2 32 32 dg → BIn W S3 64 k3 L → Calls Tryz.prog 14 #[.slice S1 65 k1, .slice S2 32 32, .slice S3 64 k3] W fun e w' => e = .returned (.int .i64 0) ∧ Below W.heap.size W w')
   (hv2 : ∀ S1 k1 S2 k2 S3 k3 W, BIn W S1 65 k1 E → BIn W S2 (32 + n2) k2 (dg ++ l2) → BIn W S3 64 k3 L → Calls Tryz.prog 14 #[.slice S1 65 k1, .slice S2 (32 + n2) k2, .slice S3 64 k3] W fun e w' => e = .returned (.int .i64 0) ∧ Below W.heap.size W w')
   (c1 : Ans 6 #[] (.bool true))
   (c2 : Ans 17 #[] (.agg (natsV .u64 ln).toArray))
   (c3 : Ans 18 #[.agg (natsV .u64 lD).toArray, .bool false, .agg (natsV .u64 ln).toArray] (.agg (natsV .u64 ld).toArray))
   (c4 : Ans 18 #[.agg (natsV .u64 lK).toArray, .bool false, .agg (natsV .u64 ln).toArray] (.agg (natsV .u64 lk).toArray))
   (c5 : Ans 21 #[] (.agg (pv gx gy false).toArray))
   (c6 : Ans 20 #[.agg (natsV .u64 ld).toArray, .agg (pv gx gy false).toArray] (.tuple #[.agg (pv qx qy false).toArray, .int .i64 0]))
   (c7 : Ans 24 #[.agg (natsV .u64 lm).toArray, .agg (natsV .u64 ln).toArray] (.tuple #[.agg (natsV .u64 lp).toArray, .int .i64 1])) :
   Calls Tryz.prog 5 #[.agg (sgv lD lK (.slice A n c)).toArray, .slice A2 n2 e2] w fun e w' => e = .returned (.bool true) ∧ Below w.heap.size w w' := by
 have L_lD := Hd hlD
 have L_lK := Hd hlK
 have L_ln := Hd hln
 have L_ld := Hd hld
 have L_lk := Hd hlk
 have L_gx := Hd hgx
 have L_gy := Hd hgy
 have L_qx := Hd hqx
 have L_qy := Hd hqy
 have L_lm := Hd hlm
 have L_lp := Hd hlp
 have Hc1 := Hd c1
 have Hc2 := Hd c2
 have Hc3 := Hd c3
 have Hc4 := Hd c4
 have Hc5 := Hd c5
 have Hc6 := Hd c6
 have Hc7 := Hd c7
 have Q1 := Hd (fun w => (eql24 ld (zeros 4) L_ld.out rfl w).trans (by rw [decide_eq_false z1]))
 have Q2 := Hd (fun w => (eql24 lk (zeros 4) L_lk.out rfl w).trans (by rw [decide_eq_false z2]))
 have HBI := Hd hB
 have HSG := Hd hsg
 have HE := Hd hE
 have HEN := Hd hen
 clear hlD hlK hln hld hlk hgx hgy hqx hqy hlm hlp c1 c2 c3 c4 c5 c6 c7 z1 z2
 have hmn : m ≤ n := by omega
 have hm32 : m ≤ 32 := by omega
 have HN := Hd (show (natsV .u8 (l.take m)).length = Nat.min n 32 by rw [natsV_length, List.length_take, hB.1.1]; show _ = min n 32; omega)
 have HFIT := Hd (show 0 + (natsV .u8 (l.take m)).length ≤ (natsV .u8 (zeros 32)).length by rw [natsV_length, List.length_take, hB.1.1, natsV_length]; simp [zeros]; omega)
 have HSP := Hd ((splice_f m (l.take m) hm32 (by rw [List.length_take, hB.1.1]; omega)).trans (by rw [← hdg]))
 have LDG := Hd (show dg.length = 32 by rw [hdg, List.length_append, List.length_take, hB.1.1]; simp [zeros]; omega)
 have HDB := Hd (show ∀ z ∈ dg, z < 256 from fun z hz => by rw [hdg] at hz; rcases List.mem_append.1 hz with h | h; exact hB.1.2.2.1 z (List.mem_of_mem_take h); rw [List.eq_of_mem_replicate h]; decide)
 have hcB := hB.2.2.1
 unfold maxLen at hcB
 have HMN := Hd hmn
 have HB2_ := Hd hB2
 have HL := Hd hL
 have HOF := Hd hof
 have HV1 := Hd hv1
 have HV2 := Hd hv2
 have LN2 := Hd hB2.1.1
 have HB2l := Hd hB2.1.2.2.1
 have B0_ := Hd (Blk.new w  42 (sgv lD lK (.slice A n c)))
 have bel_ := ((Below.refl w.heap.size w).alloc (Nat.le_refl _) (.cells (sgv lD lK (.slice A n c)).toArray 42))
 clear hB hsg hE hen hm hdg hmn hm32 hB2 hL hof hv1 hv2
 go_enter Tryz.func5, Tryz.ntmps5
 go_wp2_with fail
 refine (Hc1.out _).mono ?_
 rintro e w1 ⟨rfl, hbw1⟩
 have C2 := Hd (B0_.out.gr hbw1)
 have hbel3 := bel_.trans (Below.mono hbw1 bel_.size)
 clear B0_ bel_ hbw1
 go_wp2_with fail
 refine (Hc2.out _).mono ?_
 rintro e w4 ⟨rfl, hbw4⟩
 have C5 := Hd (C2.out.gr hbw4)
 have hbel6 := hbel3.trans (Below.mono hbw4 hbel3.size)
 clear C2 hbel3 hbw4
 go_wp2_with (first | (refine stM rfl 26 (.tmp 6) (.tmp 24) rfl w4 rfl (natsV .u64 ln) rfl 26 (natsV .u64 (zeros 4)) (i24 L_ln.out) (lz4 L_ln.out) n1' ?_; intro w7 hgw7 hnw7; have C10 := Hd (C5.out.gr hgw7); clear C5; have hbel11 := hbel6.trans (Below.mono hgw7 hbel6.size); clear hbel6; have D9 := Hd hnw7; clear hnw7 hgw7; generalize w4.heap.size = G8 at *) | (refine wpList_load_mid rfl 26 (.tmp 25) rfl w.heap.size 0 rfl (natsV .u64 lD) _ (sg_x (C10.out)) Tryz.underlying26 rfl (i24 L_lD.out) ?_) | (refine wpList_load_mid rfl 26 (.tmp 6) rfl G8 0 rfl (natsV .u64 ln) _ (blk_all (D9.out)) Tryz.underlying26 rfl (i24 L_ln.out) ?_))
 refine (Hc3.out _).mono ?_
 rintro e w12 ⟨rfl, hbw12⟩
 have C13 := Hd (C10.out.gr hbw12)
 have C14 := Hd (D9.out.gr hbw12)
 have hbel15 := hbel11.trans (Below.mono hbw12 hbel11.size)
 clear C10 D9 hbel11 hbw12
 go_wp2_with (first | (refine stM rfl 26 (.tmp 7) (.tmp 28) rfl w12 rfl (natsV .u64 ld) rfl 26 (natsV .u64 (zeros 4)) (i24 L_ld.out) (lz4 L_ld.out) n1' ?_; intro w16 hgw16 hnw16; have C19 := Hd (C13.out.gr hgw16); clear C13; have C20 := Hd (C14.out.gr hgw16); clear C14; have hbel21 := hbel15.trans (Below.mono hgw16 hbel15.size); clear hbel15; have D18 := Hd hnw16; clear hnw16 hgw16; generalize w12.heap.size = G17 at *) | (refine wpList_load_mid rfl 26 (.tmp 29) rfl w.heap.size 4 rfl (natsV .u64 lK) _ (sg_y (C19.out) L_lD.out) Tryz.underlying26 rfl (i24 L_lK.out) ?_) | (refine wpList_load_mid rfl 26 (.tmp 6) rfl G8 0 rfl (natsV .u64 ln) _ (blk_all (C20.out)) Tryz.underlying26 rfl (i24 L_ln.out) ?_))
 refine (Hc4.out _).mono ?_
 rintro e w22 ⟨rfl, hbw22⟩
 have C23 := Hd (C19.out.gr hbw22)
 have C24 := Hd (C20.out.gr hbw22)
 have C25 := Hd (D18.out.gr hbw22)
 have hbel26 := hbel21.trans (Below.mono hbw22 hbel21.size)
 have qa := Q1.out
 have qb := Q2.out
 have hm_ := hmk32
 clear C19 C20 D18 hbel21 hbw22
 go_wp2_with (first | (refine stM rfl 26 (.tmp 8) (.tmp 32) rfl w22 rfl (natsV .u64 lk) rfl 26 (natsV .u64 (zeros 4)) (i24 L_lk.out) (lz4 L_lk.out) n1' ?_; intro w27 hgw27 hnw27; have C30 := Hd (C23.out.gr hgw27); clear C23; have C31 := Hd (C24.out.gr hgw27); clear C24; have C32 := Hd (C25.out.gr hgw27); clear C25; have hbel33 := hbel26.trans (Below.mono hgw27 hbel26.size); clear hbel26; have D29 := Hd hnw27; clear hnw27 hgw27; generalize w22.heap.size = G28 at *) | (refine stM rfl 26 (.tmp 9) (.tmp 33) rfl w27 rfl (natsV .u64 (zeros 4)) rfl 26 (natsV .u64 (zeros 4)) (i24 z4l) (lz4 z4l) n1' ?_; intro w34 hgw34 hnw34; have C37 := Hd (C30.out.gr hgw34); clear C30; have C38 := Hd (C31.out.gr hgw34); clear C31; have C39 := Hd (C32.out.gr hgw34); clear C32; have C40 := Hd (D29.out.gr hgw34); clear D29; have hbel41 := hbel33.trans (Below.mono hgw34 hbel33.size); clear hbel33; have D36 := Hd hnw34; clear hnw34 hgw34; generalize w27.heap.size = G35 at *; have cs8 := alloc_cell (sg_s (C37.out) L_lD.out L_lK.out) (.cells (natsV .u8 (zeros 32)).toArray 5)) | (refine wpList_load_mid rfl 26 (.tmp 7) rfl G17 0 rfl (natsV .u64 ld) _ (blk_all (C39.out)) Tryz.underlying26 rfl (i24 L_ld.out) ?_) | (refine wpList_load_mid rfl 26 (.tmp 9) rfl G35 0 rfl (natsV .u64 (zeros 4)) _ (blk_all (D36.out)) Tryz.underlying26 rfl (i24 z4l) ?_) | (refine ldwM 26 (.tmp 8) rfl G28 0 rfl (natsV .u64 lk) _ (blk_all (C40.out)) Tryz.underlying26 rfl (i24 L_lk.out) 3 false rfl 37 rfl rfl ?_) | (refine ldwM 26 (.tmp 9) rfl G35 0 rfl (natsV .u64 (zeros 4)) _ (blk_all (D36.out)) Tryz.underlying26 rfl (i24 z4l) 3 false rfl 37 rfl rfl ?_) | (have HBK := Hd (Blk.new w34 5 (natsV .u8 (zeros 32))); have bW := (Below.refl w34.heap.size w34).alloc (Nat.le_refl _) (.cells (natsV .u8 (zeros 32)).toArray 5); have HSRC := Hd (srcA_of (HBI.out.below (hbel41.trans (bW.mono hbel41.size))) HMN.out); refine wpList_copy_blk rfl (.tmp 44) (.tmp 46) 22 22 rfl 5 Tryz.underlying22 info5z (some ⟨w34.heap.size, 0, none⟩) A 32 32 n c rfl rfl w34.heap.size 0 (natsV .u8 (zeros 32)) 5 HBK.out (natsV .u8 (l.take m)) HN.out (fun h => ⟨rfl, HSRC.out h⟩) HFIT.out n1' ?_))
 intro wc hb4 hg4
 rw [HSP.out] at hb4
 have hgr := grown_new (r := none) (grown_trans (grown_below bW _) hg4) (Nat.le_refl _)
 have C42 := Hd (C37.out.gr hgr)
 have C43 := Hd (C38.out.gr hgr)
 have C44 := Hd (C39.out.gr hgr)
 have C45 := Hd (C40.out.gr hgr)
 have C46 := Hd (D36.out.gr hgr)
 have hbel47 := hbel41.trans (Below.mono hgr hbel41.size)
 have HDG := Hd (blk_bin (m := 32) hb4 LDG.out (by decide) HDB.out)
 clear C37 C38 C39 C40 D36 hbel41 hb4 hg4 bW HSRC HBK cs8 hm_ hgr
 generalize w34.heap.size = Gd at *
 go_wp2_with (first | (refine wpList_load_mid rfl 26 (.tmp 7) rfl G17 0 rfl (natsV .u64 ld) _ (blk_all (C44.out)) Tryz.underlying26 rfl (i24 L_ld.out) ?_) | (refine wpList_load_mid rfl 26 (.tmp 8) rfl G28 0 rfl (natsV .u64 lk) _ (blk_all (C45.out)) Tryz.underlying26 rfl (i24 L_lk.out) ?_))
 refine (HSG.out _ _ HDG.out).mono ?_
 rintro e wS ⟨Gs, ks, rfl, hS, hbS⟩
 have C48 := Hd (C42.out.gr hbS)
 have C49 := Hd (C43.out.gr hbS)
 have C50 := Hd (C44.out.gr hbS)
 have C51 := Hd (C45.out.gr hbS)
 have C52 := Hd (C46.out.gr hbS)
 have C53 := Hd (HDG.out.gr hbS)
 have hbel54 := hbel47.trans (Below.mono hbS hbel47.size)
 have HSI := Hd hS
 clear C42 C43 C44 C45 C46 HDG hbel47 hS hbS
 go_wp2_with fail
 as_aux_lemma =>
 refine wp_region_G (fun w_ => Blk w_ G17 26 (natsV .u64 ld)) 9 (by kernel_rfl) C50.out.drew ?_
 refine tk gS1 0 rfl (lg' (fun _ hS_ => blk_all (hS_)) Tryz.underlying26 (i24 L_ld.out)) ?_
 try simp only [Act.put, zq]
 refine tk gS1 1 rfl (cg' Tryz.func21 (fun W_ _ => Hc5.out W_)) ?_
 try simp only [Act.put, zq]
 refine tk gS1 2 rfl (cg' Tryz.func20 (fun W_ _ => Hc6.out W_)) ?_
 try simp only [Act.put, zq]
 refine tkp gS1 3 rfl ?_
 try simp only [Act.put, zq]
 refine tkp gS1 4 rfl ?_
 try simp only [Act.put, zq]
 refine tkp gS1 5 rfl ?_
 try simp only [Act.put, zq]
 refine wpAnyG_alloc (i := 6) gS1 (by kernel_rfl) rfl (allocG (by rfl) rfl _ alloc43) ?_
 intro w55 G56 hgw55 hz_ hn_
 try simp only [Act.put, zq]
 have NG57 := Hd (Nat.ne_of_lt (Nat.lt_of_lt_of_le C50.out.drew.lt hz_))
 have NE58 := Hd (Nat.ne_of_lt (Nat.lt_of_lt_of_le C48.out.drew.lt hz_))
 have NE59 := Hd (Nat.ne_of_lt (Nat.lt_of_lt_of_le C49.out.drew.lt hz_))
 have NE60 := Hd (Nat.ne_of_lt (Nat.lt_of_lt_of_le C50.out.drew.lt hz_))
 have NE61 := Hd (Nat.ne_of_lt (Nat.lt_of_lt_of_le C51.out.drew.lt hz_))
 have NE62 := Hd (Nat.ne_of_lt (Nat.lt_of_lt_of_le C52.out.drew.lt hz_))
 have NE63 := Hd (Nat.ne_of_lt (Nat.lt_of_lt_of_le (bin_lt C53.out.drew) hz_))
 have NE64 := Hd (Nat.ne_of_lt (Nat.lt_of_lt_of_le (bin_lt HSI.out.drew) hz_))
 have GE65 := Hd (Nat.le_trans hbel54.drew.size hz_)
 have E66 := Hd (C48.out.drew.gr hgw55)
 have E67 := Hd (C49.out.drew.gr hgw55)
 have E68 := Hd (C50.out.drew.gr hgw55)
 have E69 := Hd (C51.out.drew.gr hgw55)
 have E70 := Hd (C52.out.drew.gr hgw55)
 have E71 := Hd (C53.out.drew.gr hgw55)
 have E72 := Hd (HSI.out.drew.gr hgw55)
 have hbel73 := hbel54.drew.trans (Below.mono hgw55 hbel54.drew.size)
 have D74 := Hd hn_
 clear C48 C49 C50 C51 C52 C53 HSI hbel54 hn_ hz_ hgw55
 refine wpAnyG_store (i := 7) (by kernel_rfl) rfl D74.out (lenEq pz9 (pv_len L_qx.out L_qy.out)) (StoresG.mk (cs := (pv qx qy false)) (by rfl) 28 _ _ rfl rfl rfl (i43 L_qx.out L_qy.out) p1_) (.inr (fun _ hS_ => hS_.row _ (NG57.out))) ?_
 intro w75 hgw75 hn_
 try simp only [Act.put, zq]
 have E76 := Hd (E66.out.grown hgw75 (fun e => NE58.out (Option.some.inj e)))
 have E77 := Hd (E67.out.grown hgw75 (fun e => NE59.out (Option.some.inj e)))
 have E78 := Hd (E68.out.grown hgw75 (fun e => NE60.out (Option.some.inj e)))
 have E79 := Hd (E69.out.grown hgw75 (fun e => NE61.out (Option.some.inj e)))
 have E80 := Hd (E70.out.grown hgw75 (fun e => NE62.out (Option.some.inj e)))
 clear E66 E67 E68 E69 E70
 have E81 := Hd (E71.out.grown hgw75 (fun b_ hb_ _ => by cases hb_; exact NE63.out))
 clear E71
 have E82 := Hd (E72.out.grown hgw75 (fun b_ hb_ _ => by cases hb_; exact NE64.out))
 have D83 := Hd hn_
 have hbel84 := belStore hbel73 hgw75 (GE65.out)
 clear E72 hn_ D74 hgw75
 refine tkp gS1 8 rfl ?_
 try simp only [Act.put, zq]
 refine wpAnyG_done (by kernel_rfl) ?_ _
 intro w85 hgw85
 try simp only [Act.put, zq]
 have C86 := Hd (E76.out.gr hgw85)
 have C87 := Hd (E77.out.gr hgw85)
 have C88 := Hd (E78.out.gr hgw85)
 have C89 := Hd (E79.out.gr hgw85)
 have C90 := Hd (E80.out.gr hgw85)
 have C91 := Hd (E81.out.gr hgw85)
 have C92 := Hd (E82.out.gr hgw85)
 have C93 := Hd (D83.out.gr hgw85)
 have hbel94 := hbel84.trans (Below.mono hgw85 hbel84.size)
 clear E76 E77 E78 E79 E80 E81 E82 D83 hbel84 hgw85
 as_aux_lemma =>
 go_wp2_with (first | (refine wpList_load_mid rfl 28 (.tmp 13) rfl G56 0 rfl (pv qx qy false) _ (blk_all (C93.out)) Tryz.underlying28 rfl (i43 L_qx.out L_qy.out) ?_))
 refine (HEN.out _).mono ?_
 rintro e w95 ⟨Ga, ca, rfl, ow95, hbw95⟩
 have C96 := Hd (C86.out.gr hbw95)
 have C97 := Hd (C87.out.gr hbw95)
 have C98 := Hd (C88.out.gr hbw95)
 have C99 := Hd (C89.out.gr hbw95)
 have C100 := Hd (C90.out.gr hbw95)
 have C101 := Hd (C91.out.gr hbw95)
 have C102 := Hd (C92.out.gr hbw95)
 have C103 := Hd (C93.out.gr hbw95)
 have hbel104 := hbel94.trans (Below.mono hbw95 hbel94.size)
 have HBa := Hd (own_bin ow95 HE.out (by decide))
 clear C86 C87 C88 C89 C90 C91 C92 C93 hbel94 ow95 hbw95
 go_upto_region 15 with (fail)
 try simp only [Act.put, zq]
 have HZ := Hd (zero_row w95)
 have HX1 := Hd (C101.out.below ((Below.refl w95.heap.size w95).alloc (Nat.le_refl _) (.cells #[] 5)))
 go_wp2_with (at_builtin; refine wpList_append_bytes _ rfl _ _ rfl w95.heap.size (.slice (some ⟨w95.heap.size, 0, none⟩) 0 0) 0 [] rfl HZ.out (some ⟨Gd, 0, none⟩) 32 32 dg rfl HX1.out ?c1 ?c2 ?_)
 case c1 => omega
 case c2 => simp
 intro x1 u1 o1 g1
 have hb1 := ((Below.refl w95.heap.size w95).alloc (Nat.le_refl _) (.cells #[] 5)).grown g1 (by simp) (fun j hj => (HZ.out.lt j hj).1)
 have O1 := Hd (show u1.ownsRow w95.heap.size 5 1 x1 32 (bytesV dg) from by simpa [bytesV] using o1)
 have HX3 := Hd (HB2_.out.below (hbel104.trans (hb1.mono hbel104.size)))
 clear o1 g1 HX1
 go_wp2_with (at_builtin; refine wpList_append_bytes _ rfl _ _ rfl w95.heap.size x1 32 dg rfl O1.out A2 n2 e2 l2 rfl HX3.out ?d1 ?d2 ?_)
 case d1 => omega
 case d2 => exact hb1.size
 intro x2 u2 o2 g2
 have hb2 := hb1.grown g2 hb1.size (fun j hj => (O1.out.lt j hj).1)
 have o3 : u2.ownsRow w95.heap.size 5 1 x2 (32 + n2) (bytesV (dg ++ l2)) := by first | exact o2 | (simpa [bytesV] using o2)
 obtain ⟨Gl, kl, rfl, _⟩ := own_form o3 (by omega)
 have HLG := Hd (own_bin o3 (fun z hz => by rcases List.mem_append.1 hz with h | h; exact HDB.out z h; exact HB2l.out z h) (by omega))
 have C105 := Hd (C96.out.gr hb2)
 have C106 := Hd (C97.out.gr hb2)
 have C107 := Hd (C98.out.gr hb2)
 have C108 := Hd (C99.out.gr hb2)
 have C109 := Hd (C100.out.gr hb2)
 have C110 := Hd (C101.out.gr hb2)
 have C111 := Hd (C102.out.gr hb2)
 have C112 := Hd (C103.out.gr hb2)
 have C113 := Hd (HBa.out.gr hb2)
 have hbel114 := hbel104.trans (Below.mono hb2 hbel104.size)
 clear o2 o3 g2 O1 HX3 HZ C96 C97 C98 C99 C100 C101 C102 C103 HBa hbel104 hb1 hb2
 go_wp2_with fail
 refine (HOF.out _ _ C110.out).mono ?_
 rintro e w115 ⟨rfl, hbw115⟩
 have C116 := Hd (C105.out.gr hbw115)
 have C117 := Hd (C106.out.gr hbw115)
 have C118 := Hd (C107.out.gr hbw115)
 have C119 := Hd (C108.out.gr hbw115)
 have C120 := Hd (C109.out.gr hbw115)
 have C121 := Hd (C110.out.gr hbw115)
 have C122 := Hd (C111.out.gr hbw115)
 have C123 := Hd (C112.out.gr hbw115)
 have C124 := Hd (C113.out.gr hbw115)
 have C125 := Hd (HLG.out.gr hbw115)
 have hbel126 := hbel114.trans (Below.mono hbw115 hbel114.size)
 clear C105 C106 C107 C108 C109 C110 C111 C112 C113 HLG hbel114 hbw115
 go_wp2_with (first | (refine stM rfl 26 (.tmp 18) (.tmp 75) rfl w115 rfl (natsV .u64 lm) rfl 26 (natsV .u64 (zeros 4)) (i24 L_lm.out) (lz4 L_lm.out) n1' ?_; intro w127 hgw127 hnw127; have NE130 := Hd (Nat.ne_of_lt (C123.out.lt)); have C131 := Hd (C116.out.gr hgw127); clear C116; have C132 := Hd (C117.out.gr hgw127); clear C117; have C133 := Hd (C118.out.gr hgw127); clear C118; have C134 := Hd (C119.out.gr hgw127); clear C119; have C135 := Hd (C120.out.gr hgw127); clear C120; have C136 := Hd (C121.out.gr hgw127); clear C121; have C137 := Hd (C122.out.gr hgw127); clear C122; have C138 := Hd (C123.out.gr hgw127); clear C123; have C139 := Hd (C124.out.gr hgw127); clear C124; have C140 := Hd (C125.out.gr hgw127); clear C125; have hbel141 := hbel126.trans (Below.mono hgw127 hbel126.size); clear hbel126; have D129 := Hd hnw127; clear hnw127 hgw127; generalize w115.heap.size = G128 at *) | (refine wpList_load_mid rfl 26 (.tmp 18) rfl G128 0 rfl (natsV .u64 lm) _ (blk_all (D129.out)) Tryz.underlying26 rfl (i24 L_lm.out) ?_) | (refine wpList_load_mid rfl 26 (.tmp 6) rfl G8 0 rfl (natsV .u64 ln) _ (blk_all (C132.out)) Tryz.underlying26 rfl (i24 L_ln.out) ?_))
 refine (Hc7.out _).mono ?_
 rintro e w142 ⟨rfl, hbw142⟩
 have C143 := Hd (C131.out.gr hbw142)
 have C144 := Hd (C132.out.gr hbw142)
 have C145 := Hd (C133.out.gr hbw142)
 have C146 := Hd (C134.out.gr hbw142)
 have C147 := Hd (C135.out.gr hbw142)
 have C148 := Hd (C136.out.gr hbw142)
 have C149 := Hd (C137.out.gr hbw142)
 have C150 := Hd (C138.out.gr hbw142)
 have C151 := Hd (C139.out.gr hbw142)
 have C152 := Hd (C140.out.gr hbw142)
 have C153 := Hd (D129.out.gr hbw142)
 have hbel154 := hbel141.trans (Below.mono hbw142 hbel141.size)
 clear C131 C132 C133 C134 C135 C136 C137 C138 C139 C140 D129 hbel141 hbw142
 go_wp2_with (first | (refine stM rfl 26 (.tmp 19) (.tmp 80) rfl w142 rfl (natsV .u64 lp) rfl 26 (natsV .u64 (zeros 4)) (i24 L_lp.out) (lz4 L_lp.out) n1' ?_; intro w155 hgw155 hnw155; have NE158 := Hd (Nat.ne_of_lt (C150.out.lt)); have C159 := Hd (C143.out.gr hgw155); clear C143; have C160 := Hd (C144.out.gr hgw155); clear C144; have C161 := Hd (C145.out.gr hgw155); clear C145; have C162 := Hd (C146.out.gr hgw155); clear C146; have C163 := Hd (C147.out.gr hgw155); clear C147; have C164 := Hd (C148.out.gr hgw155); clear C148; have C165 := Hd (C149.out.gr hgw155); clear C149; have C166 := Hd (C150.out.gr hgw155); clear C150; have C167 := Hd (C151.out.gr hgw155); clear C151; have C168 := Hd (C152.out.gr hgw155); clear C152; have C169 := Hd (C153.out.gr hgw155); clear C153; have hbel170 := hbel154.trans (Below.mono hgw155 hbel154.size); clear hbel154; have D157 := Hd hnw155; clear hnw155 hgw155; generalize w142.heap.size = G156 at *))
 refine (HV1.out _ _ _ _ _ _ C167.out C164.out C165.out).mono ?_
 rintro e w171 ⟨rfl, hbw171⟩
 have C172 := Hd (C159.out.gr hbw171)
 have C173 := Hd (C160.out.gr hbw171)
 have C174 := Hd (C161.out.gr hbw171)
 have C175 := Hd (C162.out.gr hbw171)
 have C176 := Hd (C163.out.gr hbw171)
 have C177 := Hd (C164.out.gr hbw171)
 have C178 := Hd (C165.out.gr hbw171)
 have C179 := Hd (C166.out.gr hbw171)
 have C180 := Hd (C167.out.gr hbw171)
 have C181 := Hd (C168.out.gr hbw171)
 have C182 := Hd (C169.out.gr hbw171)
 have C183 := Hd (D157.out.gr hbw171)
 have hbel184 := hbel170.trans (Below.mono hbw171 hbel170.size)
 clear C159 C160 C161 C162 C163 C164 C165 C166 C167 C168 C169 D157 hbel170 hbw171
 go_wp2_with fail
 refine (HV2.out _ _ _ _ _ _ _ C180.out C181.out C178.out).mono ?_
 rintro e w185 ⟨rfl, hbw185⟩
 have C186 := Hd (C172.out.gr hbw185)
 have C187 := Hd (C173.out.gr hbw185)
 have C188 := Hd (C174.out.gr hbw185)
 have C189 := Hd (C175.out.gr hbw185)
 have C190 := Hd (C176.out.gr hbw185)
 have C191 := Hd (C177.out.gr hbw185)
 have C192 := Hd (C178.out.gr hbw185)
 have C193 := Hd (C179.out.gr hbw185)
 have C194 := Hd (C180.out.gr hbw185)
 have C195 := Hd (C181.out.gr hbw185)
 have C196 := Hd (C182.out.gr hbw185)
 have C197 := Hd (C183.out.gr hbw185)
 have hbel198 := hbel184.trans (Below.mono hbw185 hbel184.size)
 clear C172 C173 C174 C175 C176 C177 C178 C179 C180 C181 C182 C183 hbel184 hbw185
 go_wp2_with fail
 go_ret
 exact ⟨rfl, hbel198⟩
end Go.Proofs.YtdkkombpkojjaaaGreat
