/- Parts of proofs of statements, each text behind those that it stands on. No condition of its own. -/
import Derived.Test.YtdkkombpkojjaaaD31
namespace Go.Proofs.Ytdkkombpkojjaaa
set_option maxRecDepth 100000
set_option maxHeartbeats 6400000
open Go.RowKit
set_option linter.unusedVariables false
set_option linter.unusedSimpArgs false
theorem stM {ops : Array Oper} {rest : List Oper} {o : Oper} {a : Act} {Q : Exit → Act → World → Prop} {w : World} (hgd : o.guard = none) (ty : TypeId) (x y : Operand) (ho : o.op = .store ty x y) (W0 : World) (hx : a.eval x = .pointer (some ⟨W0.heap.size, 0, none⟩)) (cs : List Value) (hy : a.eval y = .agg cs.toArray) (ta : TypeId) (zs : List Value)
   (hi : (Try.prog.info? ty).map (·.size) = some cs.length) (hl : zs.length = cs.length) (h1 : ∀ v ∈ cs, v.oneCell' = true)
   (h : ∀ N, Gr W0 N → Blk N W0.heap.size ta cs → wpList Try.prog ops Q rest (a.put o.dst undef) N) (hw : w = W0.alloc (.cells zs.toArray ta) := by rfl) : wpList Try.prog ops Q (o :: rest) a w := by
 subst hw
 exact stN hgd ty x y ho W0 hx cs hy ta zs hi hl h1 h
def sgv (lD lK : List Nat) (v : Value) : List Value := natsV .u64 lD ++ (natsV .u64 lK ++ [v])
theorem sg_x {w : World} {g : Nat} {t : TypeId} {lD lK : List Nat} {v : Value} (h : Blk w g t (sgv lD lK v)) : w.rangeAt g 0 (natsV .u64 lD) := blk_part (a := []) (b := natsV .u64 lD) h rfl
theorem sg_y {w : World} {g : Nat} {t : TypeId} {lD lK : List Nat} {v : Value} (h : Blk w g t (sgv lD lK v)) (hx : lD.length = 4) : w.rangeAt g 4 (natsV .u64 lK) := blk_part (a := natsV .u64 lD) (b := natsV .u64 lK) h (by rw [natsV_length, hx])
theorem sg_s {w : World} {g : Nat} {t : TypeId} {lD lK : List Nat} {v : Value} (h : Blk w g t (sgv lD lK v)) (hx : lD.length = 4) (hy : lK.length = 4) : w.cell? ⟨g, 8, none⟩ = some v := by
 rw [h.cell 8]
 unfold sgv
 rw [← List.append_assoc, List.getElem?_append_right (by rw [List.length_append, natsV_length, natsV_length, hx, hy]; exact Nat.le_refl _), List.length_append, natsV_length, natsV_length, hx, hy]
 rfl
theorem bin_lt {w : World} {G n c : Nat} {l : List Nat} (h : BIn w (some ⟨G, 0, none⟩) n c l) (hn : 0 < n := by omega) : G < w.heap.size := by
 obtain ⟨b, o, he, hc⟩ := h.1.2.2.2.resolve_left (by omega)
 injection he with he
 injection he with e1 e2
 subst e1
 exact World.block_lt_of_cell? w _ (hc 0 hn)
theorem wpAnyG_callE {P : Program} {ops : Array Oper} {Q : Exit → Act → World → Prop} {md : Region.Mode} {S : World → Prop} {L : Nat} {i : Nat} {o : Oper} {fuel : Nat} {listed : Array Bool} {a : Act} {w : World} (hSg : ∀ w w', S w → Gr w w' → S w') (hr : Region.ready md ops listed = [i]) (hi : ops[i]? = some o)
   (hw : Region.wanted o (yielded ops a.tmps) = true) {f : FuncId} {fn : Func} {xs : Array Operand} {ats : Array TypeId} (ho : o.op = .call { callee := .value (.func f), args := xs, argTypes := ats }) (hf : P.funcs[f]? = some fn) (hname : (fn.name == "runtime.NumGoroutine") = false) (hb : fn.body.isSome = true)
   (args : Array Value) (ha : #[] ++ xs.map a.eval ++ #[] = args) {R : Value → World → World → Prop} (hc : ∀ w1, S w1 → Calls P f args w1 (fun e w' => ∃ v, e = .returned v ∧ R v w1 w' ∧ Below w1.heap.size w1 w'))
   (h : ∀ v w1 W, Gr w w1 → R v w1 W → Gr w1 W → wpAnyG P md ops Q S L fuel (listed.setIfInBounds i true) (a.put o.dst v) W) : wpAnyG P md ops Q S L (fuel + 1) listed a w := by
 intro w1 hg
 refine ⟨fun h0 => (by rw [h0] at hr; cases hr), fun hS j hj => ?_⟩
 rw [hr] at hj
 obtain rfl : j = i := by simpa using hj
 have hv : (execOp a.eval o).run P w1 = .ok (.enter f args) w1 := by
   obtain ⟨dst, op, type, pos, after, guard⟩ := o
   subst ho
   rw [execOp_call_go, ha]
   exact run_call_in hf hname hb args w1
 unfold Go.wpOp
 simp only [hi, hw, if_true]
 refine .inl ?_
 unfold Oper.wp
 rw [hv]
 refine Calls.mono (hc w1 hS) fun e w' he => ?_
 obtain ⟨v, rfl, hR, hb2⟩ := he
 exact ⟨.inr (hSg _ _ hS hb2), h v w1 w' hg hR hb2⟩
theorem ltimes {la lb fa fb fc lc : List Nat} (w : World) (hla : la.length = 4) (hlb : lb.length = 4) (hfa : fa.length = 4) (hfb : fb.length = 4) (hfc : fc.length = 4) (hlc : lc.length = 4)
   (c1 : Ans 26 #[.int .i64 2, .agg (natsV .u64 la).toArray] (.tuple #[.agg (natsV .u64 fa).toArray, .int .i64 0]))
   (c2 : Ans 26 #[.int .i64 2, .agg (natsV .u64 lb).toArray] (.tuple #[.agg (natsV .u64 fb).toArray, .int .i64 0]))
   (c3 : Ans 27 #[.int .i64 2, .agg (natsV .u64 fa).toArray, .agg (natsV .u64 fb).toArray] (.tuple #[.agg (natsV .u64 fc).toArray, .int .i64 0]))
   (c4 : Ans 28 #[.int .i64 2, .agg (natsV .u64 fc).toArray] (.tuple #[.agg (natsV .u64 lc).toArray, .int .i64 0])) :
   Calls Try.prog 12 #[.agg (natsV .u64 la).toArray, .agg (natsV .u64 lb).toArray] w fun e w' => e = .returned (.agg (natsV .u64 lc).toArray) ∧ Below w.heap.size w w' := by
 have L_la := Hd hla
 have L_lb := Hd hlb
 have L_fa := Hd hfa
 have L_fb := Hd hfb
 have L_fc := Hd hfc
 have L_lc := Hd hlc
 have Hc1 := Hd c1
 have Hc2 := Hd c2
 have Hc3 := Hd c3
 have Hc4 := Hd c4
 have B0_ := Hd (((Blk.new w  24 (natsV .u64 la)).alloc (.cells (natsV .u64 lb).toArray 24)).alloc (.cells (natsV .u64 (zeros 4)).toArray 24))
 have B1_ := Hd ((Blk.new2 w (.cells (natsV .u64 la).toArray 24) 24 (natsV .u64 lb)).alloc (.cells (natsV .u64 (zeros 4)).toArray 24))
 have B2_ := Hd (Blk.new3 w (.cells (natsV .u64 la).toArray 24) (.cells (natsV .u64 lb).toArray 24) 24 (natsV .u64 (zeros 4)))
 clear hla hlb hfa hfb hfc hlc c1 c2 c3 c4
 have bel_ := ((((Below.refl w.heap.size w).alloc (Nat.le_refl _) (.cells (natsV .u64 la).toArray 24)).alloc (by simp) (.cells (natsV .u64 lb).toArray 24)).alloc (by simp; omega) (.cells (natsV .u64 (zeros 4)).toArray 24))
 go_enter Try.func12, Try.ntmps12
 go_wp2_with (first | (refine lm' (blk_all (B0_.out)) Try.underlying24 (i24 L_la.out) ?_))
 refine (Hc1.out _).mono ?_
 rintro e w1 ⟨rfl, hbw1⟩
 have C2 := Hd (B0_.out.gr hbw1)
 have C3 := Hd (B1_.out.gr hbw1)
 have C4 := Hd (B2_.out.gr hbw1)
 have hbel5 := bel_.trans (Below.mono hbw1 bel_.size)
 clear B0_ B1_ B2_ bel_ hbw1
 go_wp2_with (first | (refine stM rfl 24 (.tmp 5) (.tmp 16) rfl w1 rfl (natsV .u64 fa) rfl 24 (natsV .u64 (zeros 4)) (i24 L_fa.out) (lz4 L_fa.out) n1' ?_; intro w6 hgw6 hnw6; have C9 := Hd (C2.out.gr hgw6); clear C2; have C10 := Hd (C3.out.gr hgw6); clear C3; have C11 := Hd (C4.out.gr hgw6); clear C4; have hbel12 := hbel5.trans (Below.mono hgw6 hbel5.size); clear hbel5; have D8 := Hd hnw6; clear hnw6 hgw6; generalize w1.heap.size = G7 at *) | (refine lm' (blk_all (C10.out)) Try.underlying24 (i24 L_lb.out) ?_))
 refine (Hc2.out _).mono ?_
 rintro e w13 ⟨rfl, hbw13⟩
 have C14 := Hd (C9.out.gr hbw13)
 have C15 := Hd (C10.out.gr hbw13)
 have C16 := Hd (C11.out.gr hbw13)
 have C17 := Hd (D8.out.gr hbw13)
 have hbel18 := hbel12.trans (Below.mono hbw13 hbel12.size)
 clear C9 C10 C11 D8 hbel12 hbw13
 go_wp2_with (first | (refine stM rfl 24 (.tmp 7) (.tmp 21) rfl w13 rfl (natsV .u64 fb) rfl 24 (natsV .u64 (zeros 4)) (i24 L_fb.out) (lz4 L_fb.out) n1' ?_; intro w19 hgw19 hnw19; have C22 := Hd (C14.out.gr hgw19); clear C14; have C23 := Hd (C15.out.gr hgw19); clear C15; have C24 := Hd (C16.out.gr hgw19); clear C16; have C25 := Hd (C17.out.gr hgw19); clear C17; have hbel26 := hbel18.trans (Below.mono hgw19 hbel18.size); clear hbel18; have D21 := Hd hnw19; clear hnw19 hgw19; generalize w13.heap.size = G20 at *) | (refine lm' (blk_all (C25.out)) Try.underlying24 (i24 L_fa.out) ?_) | (refine lm' (blk_all (D21.out)) Try.underlying24 (i24 L_fb.out) ?_))
 refine (Hc3.out _).mono ?_
 rintro e w27 ⟨rfl, hbw27⟩
 have C28 := Hd (C22.out.gr hbw27)
 have C29 := Hd (C23.out.gr hbw27)
 have C30 := Hd (C24.out.gr hbw27)
 have C31 := Hd (C25.out.gr hbw27)
 have C32 := Hd (D21.out.gr hbw27)
 have hbel33 := hbel26.trans (Below.mono hbw27 hbel26.size)
 clear C22 C23 C24 C25 D21 hbel26 hbw27
 go_wp2_with (first | (refine stM rfl 24 (.tmp 9) (.tmp 27) rfl w27 rfl (natsV .u64 fc) rfl 24 (natsV .u64 (zeros 4)) (i24 L_fc.out) (lz4 L_fc.out) n1' ?_; intro w34 hgw34 hnw34; have C37 := Hd (C28.out.gr hgw34); clear C28; have C38 := Hd (C29.out.gr hgw34); clear C29; have C39 := Hd (C30.out.gr hgw34); clear C30; have C40 := Hd (C31.out.gr hgw34); clear C31; have C41 := Hd (C32.out.gr hgw34); clear C32; have hbel42 := hbel33.trans (Below.mono hgw34 hbel33.size); clear hbel33; have D36 := Hd hnw34; clear hnw34 hgw34; generalize w27.heap.size = G35 at *) | (refine lm' (blk_all (D36.out)) Try.underlying24 (i24 L_fc.out) ?_))
 refine (Hc4.out _).mono ?_
 rintro e w43 ⟨rfl, hbw43⟩
 have C44 := Hd (C37.out.gr hbw43)
 have C45 := Hd (C38.out.gr hbw43)
 have C46 := Hd (C39.out.gr hbw43)
 have C47 := Hd (C40.out.gr hbw43)
 have C48 := Hd (C41.out.gr hbw43)
 have C49 := Hd (D36.out.gr hbw43)
 have hbel50 := hbel42.trans (Below.mono hbw43 hbel42.size)
 clear C37 C38 C39 C40 C41 D36 hbel42 hbw43
 go_wp2_with (first | (refine stM rfl 24 (.tmp 11) (.tmp 32) rfl w43 rfl (natsV .u64 lc) rfl 24 (natsV .u64 (zeros 4)) (i24 L_lc.out) (lz4 L_lc.out) n1' ?_; intro w51 hgw51 hnw51; have C54 := Hd (C44.out.gr hgw51); clear C44; have C55 := Hd (C45.out.gr hgw51); clear C45; have C56 := Hd (C46.out.gr hgw51); clear C46; have C57 := Hd (C47.out.gr hgw51); clear C47; have C58 := Hd (C48.out.gr hgw51); clear C48; have C59 := Hd (C49.out.gr hgw51); clear C49; have hbel60 := hbel50.trans (Below.mono hgw51 hbel50.size); clear hbel50; have D53 := Hd hnw51; clear hnw51 hgw51; generalize w43.heap.size = G52 at *) | (refine lm' (blk_all (D53.out)) Try.underlying24 (i24 L_lc.out) ?_) | (refine stB rfl 24 (.tmp 4) (.tmp 34) rfl (w.heap.size + 1 + 1) rfl (natsV .u64 lc) rfl 24 (natsV .u64 (zeros 4)) C56.out (i24 L_lc.out) (lz4 L_lc.out) n1' ?_))
 refine bodyPost_ret (v := .agg (natsV .u64 lc).toArray) ?_ rfl ⟨rfl, below_setRow' hbel60 (by first | exact Nat.le_refl _ | omega) _⟩
 exact results_cell_row Try.results12 _ _ (w.heap.size + 1 + 1) 24 _ (0, 0) _ rfl (C56.out.setRow _) Try.underlying24 rfl (by simpa using (i24 L_lc.out))
theorem linv {la fa fc lc : List Nat} (w : World) (hla : la.length = 4) (hfa : fa.length = 4) (hfc : fc.length = 4) (hlc : lc.length = 4)
   (c1 : Ans 26 #[.int .i64 2, .agg (natsV .u64 la).toArray] (.tuple #[.agg (natsV .u64 fa).toArray, .int .i64 0]))
   (c2 : Ans 29 #[.int .i64 2, .agg (natsV .u64 fa).toArray] (.tuple #[.agg (natsV .u64 fc).toArray, .int .i64 0]))
   (c3 : Ans 28 #[.int .i64 2, .agg (natsV .u64 fc).toArray] (.tuple #[.agg (natsV .u64 lc).toArray, .int .i64 0])) :
   Calls Try.prog 13 #[.agg (natsV .u64 la).toArray] w fun e w' => e = .returned (.agg (natsV .u64 lc).toArray) ∧ Below w.heap.size w w' := by
 have L_la := Hd hla
 have L_fa := Hd hfa
 have L_fc := Hd hfc
 have L_lc := Hd hlc
 have Hc1 := Hd c1
 have Hc2 := Hd c2
 have Hc3 := Hd c3
 have B0_ := Hd ((Blk.new w  24 (natsV .u64 la)).alloc (.cells (natsV .u64 (zeros 4)).toArray 24))
 have B1_ := Hd (Blk.new2 w (.cells (natsV .u64 la).toArray 24) 24 (natsV .u64 (zeros 4)))
 have bel_ := (((Below.refl w.heap.size w).alloc (Nat.le_refl _) (.cells (natsV .u64 la).toArray 24)).alloc (by simp) (.cells (natsV .u64 (zeros 4)).toArray 24))
 clear hla hfa hfc hlc c1 c2 c3
 go_enter Try.func13, Try.ntmps13
 go_wp2_with (first | (refine lm' (blk_all (B0_.out)) Try.underlying24 (i24 L_la.out) ?_))
 refine (Hc1.out _).mono ?_
 rintro e w1 ⟨rfl, hbw1⟩
 have C2 := Hd (B0_.out.gr hbw1)
 have C3 := Hd (B1_.out.gr hbw1)
 have hbel4 := bel_.trans (Below.mono hbw1 bel_.size)
 clear B0_ B1_ bel_ hbw1
 go_wp2_with (first | (refine stM rfl 24 (.tmp 3) (.tmp 12) rfl w1 rfl (natsV .u64 fa) rfl 24 (natsV .u64 (zeros 4)) (i24 L_fa.out) (lz4 L_fa.out) n1' ?_; intro w5 hgw5 hnw5; have C8 := Hd (C2.out.gr hgw5); clear C2; have C9 := Hd (C3.out.gr hgw5); clear C3; have hbel10 := hbel4.trans (Below.mono hgw5 hbel4.size); clear hbel4; have D7 := Hd hnw5; clear hnw5 hgw5; generalize w1.heap.size = G6 at *) | (refine lm' (blk_all (D7.out)) Try.underlying24 (i24 L_fa.out) ?_))
 refine (Hc2.out _).mono ?_
 rintro e w11 ⟨rfl, hbw11⟩
 have C12 := Hd (C8.out.gr hbw11)
 have C13 := Hd (C9.out.gr hbw11)
 have C14 := Hd (D7.out.gr hbw11)
 have hbel15 := hbel10.trans (Below.mono hbw11 hbel10.size)
 clear C8 C9 D7 hbel10 hbw11
 go_wp2_with (first | (refine stM rfl 24 (.tmp 5) (.tmp 17) rfl w11 rfl (natsV .u64 fc) rfl 24 (natsV .u64 (zeros 4)) (i24 L_fc.out) (lz4 L_fc.out) n1' ?_; intro w16 hgw16 hnw16; have C19 := Hd (C12.out.gr hgw16); clear C12; have C20 := Hd (C13.out.gr hgw16); clear C13; have C21 := Hd (C14.out.gr hgw16); clear C14; have hbel22 := hbel15.trans (Below.mono hgw16 hbel15.size); clear hbel15; have D18 := Hd hnw16; clear hnw16 hgw16; generalize w11.heap.size = G17 at *) | (refine lm' (blk_all (D18.out)) Try.underlying24 (i24 L_fc.out) ?_))
 refine (Hc3.out _).mono ?_
 rintro e w23 ⟨rfl, hbw23⟩
 have C24 := Hd (C19.out.gr hbw23)
 have C25 := Hd (C20.out.gr hbw23)
 have C26 := Hd (C21.out.gr hbw23)
 have C27 := Hd (D18.out.gr hbw23)
 have hbel28 := hbel22.trans (Below.mono hbw23 hbel22.size)
 clear C19 C20 C21 D18 hbel22 hbw23
 go_wp2_with (first | (refine stM rfl 24 (.tmp 7) (.tmp 22) rfl w23 rfl (natsV .u64 lc) rfl 24 (natsV .u64 (zeros 4)) (i24 L_lc.out) (lz4 L_lc.out) n1' ?_; intro w29 hgw29 hnw29; have C32 := Hd (C24.out.gr hgw29); clear C24; have C33 := Hd (C25.out.gr hgw29); clear C25; have C34 := Hd (C26.out.gr hgw29); clear C26; have C35 := Hd (C27.out.gr hgw29); clear C27; have hbel36 := hbel28.trans (Below.mono hgw29 hbel28.size); clear hbel28; have D31 := Hd hnw29; clear hnw29 hgw29; generalize w23.heap.size = G30 at *) | (refine lm' (blk_all (D31.out)) Try.underlying24 (i24 L_lc.out) ?_) | (refine stB rfl 24 (.tmp 2) (.tmp 24) rfl (w.heap.size + 1) rfl (natsV .u64 lc) rfl 24 (natsV .u64 (zeros 4)) C33.out (i24 L_lc.out) (lz4 L_lc.out) n1' ?_))
 refine bodyPost_ret (v := .agg (natsV .u64 lc).toArray) ?_ rfl ⟨rfl, below_setRow' hbel36 (by first | exact Nat.le_refl _ | omega) _⟩
 exact results_cell_row Try.results13 _ _ (w.heap.size + 1) 24 _ (0, 0) _ rfl (C33.out.setRow _) Try.underlying24 rfl (by simpa using (i24 L_lc.out))
theorem s_in (x : Nat) (hx : x < 2 ^ 256) : Ans 26 #[.int .i64 2, .agg (natsV .u64 (wds 4 x)).toArray] (.tuple #[.agg (natsV .u64 (sn x)).toArray, .int .i64 0]) := fun w => In_ok 2 mN fN vN x w .n hx
theorem s_out (x : Nat) : Ans 28 #[.int .i64 2, .agg (natsV .u64 (sn x)).toArray] (.tuple #[.agg (natsV .u64 (wds 4 (x % mN))).toArray, .int .i64 0]) := fun w => by
 have h := Out_ok 2 mN fN vN (toF mN x) w fld_N (toN_256 x) (pok_1 2 mN fN vN _ .n (toN_lt x))
 rw [ofN] at h; exact h
theorem l_times (a b : Nat) (ha : a < 2 ^ 256) (hb : b < 2 ^ 256) : Ans 12 #[.agg (natsV .u64 (wds 4 a)).toArray, .agg (natsV .u64 (wds 4 b)).toArray] (.agg (natsV .u64 (wds 4 (a * b % mN))).toArray) := fun w =>
 ltimes w (wds_len 4 a) (wds_len 4 b) (sn_len a) (sn_len b) (sn_len (a * b)) (wds_len 4 _) (s_in a ha) (s_in b hb) (fun w => by
   have h := Mul_ok 2 mN fN vN (toF mN a) (toF mN b) w fld_N (toN_lt a) (toN_lt b) (pok_2 2 mN fN vN _ _ .n (toN_lt a) (toN_lt b))
   rw [fld_N.mul_to] at h; exact h) (s_out (a * b))
theorem l_inv (a : Nat) (ha : a < 2 ^ 256) (h0 : a % mN ≠ 0) : Ans 13 #[.agg (natsV .u64 (wds 4 a)).toArray] (.agg (natsV .u64 (wds 4 (wN a))).toArray) := fun w =>
 linv w (wds_len 4 a) (sn_len a) (sn_len (wN a)) (wds_len 4 _) (s_in a ha) (fun w => by
   have k := Inv_ok 2 mN fN vN (toF mN a) w fld_N (toN_lt a) (fun h => h0 (toN_0 h)) (pok_1 2 mN fN vN _ .n (toN_lt a))
   rw [ofN] at k
   have e : toF mN ((a % mN) ^ (mN - 2)) = toF mN (wN a) := by
     rw [← toF_md mN ((a % mN) ^ (mN - 2)), ← Nat.pow_mod]; rfl
   rw [e] at k; exact k) (fun w => by
   have k := s_out (wN a) w
   rw [Nat.mod_eq_of_lt (wN_lt a)] at k; exact k)
theorem wsigned_d0 {lD lK ln ld lk : List Nat} {A : Option Addr} {n c : Nat} {l : List Nat} {ip : Bool} (w : World) (hlD : lD.length = 4) (hlK : lK.length = 4) (hln : ln.length = 4) (hld : ld.length = 4) (hlk : lk.length = 4)
   (z1 : ld = zeros 4)
   (c1 : Ans 4 #[] (.bool true))
   (c2 : Ans 5 #[] (.agg (natsV .u64 ln).toArray))
   (c3 : Ans 6 #[.agg (natsV .u64 lD).toArray, .bool false, .agg (natsV .u64 ln).toArray] (.agg (natsV .u64 ld).toArray))
   (c4 : Ans 6 #[.agg (natsV .u64 lK).toArray, .bool false, .agg (natsV .u64 ln).toArray] (.agg (natsV .u64 lk).toArray)) :
   Calls Try.prog 3 #[.agg (sgv lD lK (.slice A n c)).toArray] w fun e w' => e = .returned (.bool true) ∧ Below w.heap.size w w' := by
 have L_lD := Hd hlD
 have L_lK := Hd hlK
 have L_ln := Hd hln
 have L_ld := Hd hld
 have L_lk := Hd hlk
 have Hc1 := Hd c1
 have Hc2 := Hd c2
 have Hc3 := Hd c3
 have Hc4 := Hd c4
 have Q1 := Hd (fun w => (eql24 ld (zeros 4) L_ld.out rfl w).trans (by rw [decide_eq_true z1]))
 have B0_ := Hd (Blk.new w  27 (sgv lD lK (.slice A n c)))
 have bel_ := ((Below.refl w.heap.size w).alloc (Nat.le_refl _) (.cells (sgv lD lK (.slice A n c)).toArray 27))
 clear hlD hlK hln hld hlk c1 c2 c3 c4 z1
 go_enter Try.func3, Try.ntmps3
 go_wp2_with fail
 refine (Hc1.out _).mono ?_
 rintro e w1 ⟨rfl, hbw1⟩
 have C2 := Hd (B0_.out.gr hbw1)
 have hbel3 := bel_.trans (Below.mono hbw1 bel_.size)
 clear B0_ bel_ hbw1
 go_wp2_with fail
 refine (Hc2.out _).mono ?_
 rintro e w4 ⟨rfl, hbw4⟩
 have C5 := Hd (C2.out.gr hbw4)
 have hbel6 := hbel3.trans (Below.mono hbw4 hbel3.size)
 clear C2 hbel3 hbw4
 go_wp2_with (first | (refine stM rfl 24 (.tmp 4) (.tmp 20) rfl w4 rfl (natsV .u64 ln) rfl 24 (natsV .u64 (zeros 4)) (i24 L_ln.out) (lz4 L_ln.out) n1' ?_; intro w7 hgw7 hnw7; have C10 := Hd (C5.out.gr hgw7); clear C5; have hbel11 := hbel6.trans (Below.mono hgw7 hbel6.size); clear hbel6; have D9 := Hd hnw7; clear hnw7 hgw7; generalize w4.heap.size = G8 at *) | (refine wpList_load_mid rfl 24 (.tmp 21) rfl w.heap.size 0 rfl (natsV .u64 lD) _ (sg_x (C10.out)) Try.underlying24 rfl (i24 L_lD.out) ?_) | (refine lm' (blk_all (D9.out)) Try.underlying24 (i24 L_ln.out) ?_))
 refine (Hc3.out _).mono ?_
 rintro e w12 ⟨rfl, hbw12⟩
 have C13 := Hd (C10.out.gr hbw12)
 have C14 := Hd (D9.out.gr hbw12)
 have hbel15 := hbel11.trans (Below.mono hbw12 hbel11.size)
 clear C10 D9 hbel11 hbw12
 go_wp2_with (first | (refine stM rfl 24 (.tmp 5) (.tmp 24) rfl w12 rfl (natsV .u64 ld) rfl 24 (natsV .u64 (zeros 4)) (i24 L_ld.out) (lz4 L_ld.out) n1' ?_; intro w16 hgw16 hnw16; have C19 := Hd (C13.out.gr hgw16); clear C13; have C20 := Hd (C14.out.gr hgw16); clear C14; have hbel21 := hbel15.trans (Below.mono hgw16 hbel15.size); clear hbel15; have D18 := Hd hnw16; clear hnw16 hgw16; generalize w12.heap.size = G17 at *) | (refine wpList_load_mid rfl 24 (.tmp 25) rfl w.heap.size 4 rfl (natsV .u64 lK) _ (sg_y (C19.out) L_lD.out) Try.underlying24 rfl (i24 L_lK.out) ?_) | (refine lm' (blk_all (C20.out)) Try.underlying24 (i24 L_ln.out) ?_))
 refine (Hc4.out _).mono ?_
 rintro e w22 ⟨rfl, hbw22⟩
 have C23 := Hd (C19.out.gr hbw22)
 have C24 := Hd (C20.out.gr hbw22)
 have C25 := Hd (D18.out.gr hbw22)
 have hbel26 := hbel21.trans (Below.mono hbw22 hbel21.size)
 have qa := Q1.out
 clear C19 C20 D18 hbel21 hbw22
 go_wp2_with (first | (refine stM rfl 24 (.tmp 6) (.tmp 28) rfl w22 rfl (natsV .u64 lk) rfl 24 (natsV .u64 (zeros 4)) (i24 L_lk.out) (lz4 L_lk.out) n1' ?_; intro w27 hgw27 hnw27; have C30 := Hd (C23.out.gr hgw27); clear C23; have C31 := Hd (C24.out.gr hgw27); clear C24; have C32 := Hd (C25.out.gr hgw27); clear C25; have hbel33 := hbel26.trans (Below.mono hgw27 hbel26.size); clear hbel26; have D29 := Hd hnw27; clear hnw27 hgw27; generalize w22.heap.size = G28 at *) | (refine stM rfl 24 (.tmp 7) (.tmp 29) rfl w27 rfl (natsV .u64 (zeros 4)) rfl 24 (natsV .u64 (zeros 4)) (i24 z4l) (lz4 z4l) n1' ?_; intro w34 hgw34 hnw34; have C37 := Hd (C30.out.gr hgw34); clear C30; have C38 := Hd (C31.out.gr hgw34); clear C31; have C39 := Hd (C32.out.gr hgw34); clear C32; have C40 := Hd (D29.out.gr hgw34); clear D29; have hbel41 := hbel33.trans (Below.mono hgw34 hbel33.size); clear hbel33; have D36 := Hd hnw34; clear hnw34 hgw34; generalize w27.heap.size = G35 at *) | (refine lm' (blk_all (C39.out)) Try.underlying24 (i24 L_ld.out) ?_) | (refine lm' (blk_all (D36.out)) Try.underlying24 (i24 z4l) ?_) | (refine ldwM 24 (.tmp 6) rfl G28 0 rfl (natsV .u64 lk) _ (blk_all (C40.out)) Try.underlying24 rfl (i24 L_lk.out) 3 false rfl 33 rfl rfl ?_) | (refine ldwM 24 (.tmp 7) rfl G35 0 rfl (natsV .u64 (zeros 4)) _ (blk_all (D36.out)) Try.underlying24 rfl (i24 z4l) 3 false rfl 33 rfl rfl ?_))
 go_ret
 exact ⟨rfl, hbel41⟩
theorem wsigned_k0 {lD lK ln ld lk : List Nat} {A : Option Addr} {n c : Nat} {l : List Nat} {ip : Bool} (w : World) (hlD : lD.length = 4) (hlK : lK.length = 4) (hln : ln.length = 4) (hld : ld.length = 4) (hlk : lk.length = 4)
   (z1 : ¬ ld = zeros 4)
   (z2 : lk = zeros 4)
   (c1 : Ans 4 #[] (.bool true))
   (c2 : Ans 5 #[] (.agg (natsV .u64 ln).toArray))
   (c3 : Ans 6 #[.agg (natsV .u64 lD).toArray, .bool false, .agg (natsV .u64 ln).toArray] (.agg (natsV .u64 ld).toArray))
   (c4 : Ans 6 #[.agg (natsV .u64 lK).toArray, .bool false, .agg (natsV .u64 ln).toArray] (.agg (natsV .u64 lk).toArray)) :
   Calls Try.prog 3 #[.agg (sgv lD lK (.slice A n c)).toArray] w fun e w' => e = .returned (.bool true) ∧ Below w.heap.size w w' := by
 have L_lD := Hd hlD
 have L_lK := Hd hlK
 have L_ln := Hd hln
 have L_ld := Hd hld
 have L_lk := Hd hlk
 have Hc1 := Hd c1
 have Hc2 := Hd c2
 have Hc3 := Hd c3
 have Hc4 := Hd c4
 have Q1 := Hd (fun w => (eql24 ld (zeros 4) L_ld.out rfl w).trans (by rw [decide_eq_false z1]))
 have Q2 := Hd (fun w => (eql24 lk (zeros 4) L_lk.out rfl w).trans (by rw [decide_eq_true z2]))
 have B0_ := Hd (Blk.new w  27 (sgv lD lK (.slice A n c)))
 have bel_ := ((Below.refl w.heap.size w).alloc (Nat.le_refl _) (.cells (sgv lD lK (.slice A n c)).toArray 27))
 clear hlD hlK hln hld hlk c1 c2 c3 c4 z1 z2
 go_enter Try.func3, Try.ntmps3
 go_wp2_with fail
 refine (Hc1.out _).mono ?_
 rintro e w1 ⟨rfl, hbw1⟩
 have C2 := Hd (B0_.out.gr hbw1)
 have hbel3 := bel_.trans (Below.mono hbw1 bel_.size)
 clear B0_ bel_ hbw1
 go_wp2_with fail
 refine (Hc2.out _).mono ?_
 rintro e w4 ⟨rfl, hbw4⟩
 have C5 := Hd (C2.out.gr hbw4)
 have hbel6 := hbel3.trans (Below.mono hbw4 hbel3.size)
 clear C2 hbel3 hbw4
 go_wp2_with (first | (refine stM rfl 24 (.tmp 4) (.tmp 20) rfl w4 rfl (natsV .u64 ln) rfl 24 (natsV .u64 (zeros 4)) (i24 L_ln.out) (lz4 L_ln.out) n1' ?_; intro w7 hgw7 hnw7; have C10 := Hd (C5.out.gr hgw7); clear C5; have hbel11 := hbel6.trans (Below.mono hgw7 hbel6.size); clear hbel6; have D9 := Hd hnw7; clear hnw7 hgw7; generalize w4.heap.size = G8 at *) | (refine wpList_load_mid rfl 24 (.tmp 21) rfl w.heap.size 0 rfl (natsV .u64 lD) _ (sg_x (C10.out)) Try.underlying24 rfl (i24 L_lD.out) ?_) | (refine lm' (blk_all (D9.out)) Try.underlying24 (i24 L_ln.out) ?_))
 refine (Hc3.out _).mono ?_
 rintro e w12 ⟨rfl, hbw12⟩
 have C13 := Hd (C10.out.gr hbw12)
 have C14 := Hd (D9.out.gr hbw12)
 have hbel15 := hbel11.trans (Below.mono hbw12 hbel11.size)
 clear C10 D9 hbel11 hbw12
 go_wp2_with (first | (refine stM rfl 24 (.tmp 5) (.tmp 24) rfl w12 rfl (natsV .u64 ld) rfl 24 (natsV .u64 (zeros 4)) (i24 L_ld.out) (lz4 L_ld.out) n1' ?_; intro w16 hgw16 hnw16; have C19 := Hd (C13.out.gr hgw16); clear C13; have C20 := Hd (C14.out.gr hgw16); clear C14; have hbel21 := hbel15.trans (Below.mono hgw16 hbel15.size); clear hbel15; have D18 := Hd hnw16; clear hnw16 hgw16; generalize w12.heap.size = G17 at *) | (refine wpList_load_mid rfl 24 (.tmp 25) rfl w.heap.size 4 rfl (natsV .u64 lK) _ (sg_y (C19.out) L_lD.out) Try.underlying24 rfl (i24 L_lK.out) ?_) | (refine lm' (blk_all (C20.out)) Try.underlying24 (i24 L_ln.out) ?_))
 refine (Hc4.out _).mono ?_
 rintro e w22 ⟨rfl, hbw22⟩
 have C23 := Hd (C19.out.gr hbw22)
 have C24 := Hd (C20.out.gr hbw22)
 have C25 := Hd (D18.out.gr hbw22)
 have hbel26 := hbel21.trans (Below.mono hbw22 hbel21.size)
 have qa := Q1.out
 have qb := Q2.out
 clear C19 C20 D18 hbel21 hbw22
 go_wp2_with (first | (refine stM rfl 24 (.tmp 6) (.tmp 28) rfl w22 rfl (natsV .u64 lk) rfl 24 (natsV .u64 (zeros 4)) (i24 L_lk.out) (lz4 L_lk.out) n1' ?_; intro w27 hgw27 hnw27; have C30 := Hd (C23.out.gr hgw27); clear C23; have C31 := Hd (C24.out.gr hgw27); clear C24; have C32 := Hd (C25.out.gr hgw27); clear C25; have hbel33 := hbel26.trans (Below.mono hgw27 hbel26.size); clear hbel26; have D29 := Hd hnw27; clear hnw27 hgw27; generalize w22.heap.size = G28 at *) | (refine stM rfl 24 (.tmp 7) (.tmp 29) rfl w27 rfl (natsV .u64 (zeros 4)) rfl 24 (natsV .u64 (zeros 4)) (i24 z4l) (lz4 z4l) n1' ?_; intro w34 hgw34 hnw34; have C37 := Hd (C30.out.gr hgw34); clear C30; have C38 := Hd (C31.out.gr hgw34); clear C31; have C39 := Hd (C32.out.gr hgw34); clear C32; have C40 := Hd (D29.out.gr hgw34); clear D29; have hbel41 := hbel33.trans (Below.mono hgw34 hbel33.size); clear hbel33; have D36 := Hd hnw34; clear hnw34 hgw34; generalize w27.heap.size = G35 at *) | (refine lm' (blk_all (C39.out)) Try.underlying24 (i24 L_ld.out) ?_) | (refine lm' (blk_all (D36.out)) Try.underlying24 (i24 z4l) ?_) | (refine ldwM 24 (.tmp 6) rfl G28 0 rfl (natsV .u64 lk) _ (blk_all (C40.out)) Try.underlying24 rfl (i24 L_lk.out) 3 false rfl 33 rfl rfl ?_) | (refine ldwM 24 (.tmp 7) rfl G35 0 rfl (natsV .u64 (zeros 4)) _ (blk_all (D36.out)) Try.underlying24 rfl (i24 z4l) 3 false rfl 33 rfl rfl ?_))
 go_ret
 exact ⟨rfl, hbel41⟩
theorem wsigned_r0 {lD lK ln ld lk gx gy qx qy px py lr lz l1 l2 li ls : List Nat} {A : Option Addr} {n c : Nat} {l : List Nat} {ip : Bool} {E L L2 : List Nat} (w : World) (hlD : lD.length = 4) (hlK : lK.length = 4) (hln : ln.length = 4) (hld : ld.length = 4) (hlk : lk.length = 4) (hgx : gx.length = 4) (hgy : gy.length = 4) (hqx : qx.length = 4) (hqy : qy.length = 4) (hpx : px.length = 4) (hpy : py.length = 4) (hlr : lr.length = 4) (hlz : lz.length = 4) (hl1 : l1.length = 4) (hl2 : l2.length = 4) (hli : li.length = 4) (hls : ls.length = 4)
   (z1 : ¬ ld = zeros 4)
   (z2 : ¬ lk = zeros 4)
   (z3 : lr = zeros 4)
   (hB : BIn w A n c l)
   (hE : ∀ z ∈ E, z < 256)
   (hen : ∀ w, Calls Try.prog 9 #[.agg (pv qx qy false).toArray] w (ListOwn 65 E w))
   (c1 : Ans 4 #[] (.bool true))
   (c2 : Ans 5 #[] (.agg (natsV .u64 ln).toArray))
   (c3 : Ans 6 #[.agg (natsV .u64 lD).toArray, .bool false, .agg (natsV .u64 ln).toArray] (.agg (natsV .u64 ld).toArray))
   (c4 : Ans 6 #[.agg (natsV .u64 lK).toArray, .bool false, .agg (natsV .u64 ln).toArray] (.agg (natsV .u64 lk).toArray))
   (c5 : Ans 8 #[] (.agg (pv gx gy false).toArray))
   (c6 : Ans 7 #[.agg (natsV .u64 ld).toArray, .agg (pv gx gy false).toArray] (.tuple #[.agg (pv qx qy false).toArray, .int .i64 0]))
   (c7 : Ans 7 #[.agg (natsV .u64 lk).toArray, .agg (pv gx gy false).toArray] (.tuple #[.agg (pv px py ip).toArray, .int .i64 0]))
   (c8 : Ans 6 #[.agg (natsV .u64 px).toArray, .bool false, .agg (natsV .u64 ln).toArray] (.agg (natsV .u64 lr).toArray))
   (c9 : ∀ W, Below w.heap.size w W → Calls Try.prog 11 #[.slice A n c] W fun e w' => e = .returned (.agg (natsV .u64 lz).toArray) ∧ Below W.heap.size W w')
   (c10 : Ans 12 #[.agg (natsV .u64 lr).toArray, .agg (natsV .u64 ld).toArray] (.agg (natsV .u64 l1).toArray))
   (c11 : Ans 10 #[.agg (natsV .u64 lz).toArray, .agg (natsV .u64 l1).toArray, .agg (natsV .u64 ln).toArray] (.agg (natsV .u64 l2).toArray))
   (c12 : Ans 13 #[.agg (natsV .u64 lk).toArray] (.agg (natsV .u64 li).toArray))
   (c13 : Ans 12 #[.agg (natsV .u64 l2).toArray, .agg (natsV .u64 li).toArray] (.agg (natsV .u64 ls).toArray)) :
   Calls Try.prog 3 #[.agg (sgv lD lK (.slice A n c)).toArray] w fun e w' => e = .returned (.bool true) ∧ Below w.heap.size w w' := by
 have L_lD := Hd hlD
 have L_lK := Hd hlK
 have L_ln := Hd hln
 have L_ld := Hd hld
 have L_lk := Hd hlk
 have L_gx := Hd hgx
 have L_gy := Hd hgy
 have L_qx := Hd hqx
 have L_qy := Hd hqy
 have L_px := Hd hpx
 have L_py := Hd hpy
 have L_lr := Hd hlr
 have L_lz := Hd hlz
 have L_l1 := Hd hl1
 have L_l2 := Hd hl2
 have L_li := Hd hli
 have L_ls := Hd hls
 have Hc1 := Hd c1
 have Hc2 := Hd c2
 have Hc3 := Hd c3
 have Hc4 := Hd c4
 have Hc5 := Hd c5
 have Hc6 := Hd c6
 have Hc7 := Hd c7
 have Hc8 := Hd c8
 have Hc9 := Hd c9
 have Hc10 := Hd c10
 have Hc11 := Hd c11
 have Hc12 := Hd c12
 have Hc13 := Hd c13
 have Q1 := Hd (fun w => (eql24 ld (zeros 4) L_ld.out rfl w).trans (by rw [decide_eq_false z1]))
 have Q2 := Hd (fun w => (eql24 lk (zeros 4) L_lk.out rfl w).trans (by rw [decide_eq_false z2]))
 have Q3 := Hd (fun w => (eql24 lr (zeros 4) L_lr.out rfl w).trans (by rw [decide_eq_true z3]))
 have HBI := Hd hB
 have HE := Hd hE
 have HEN := Hd hen
 have B0_ := Hd (Blk.new w  27 (sgv lD lK (.slice A n c)))
 have bel_ := ((Below.refl w.heap.size w).alloc (Nat.le_refl _) (.cells (sgv lD lK (.slice A n c)).toArray 27))
 clear hlD hlK hln hld hlk hgx hgy hqx hqy hpx hpy hlr hlz hl1 hl2 hli hls c1 c2 c3 c4 c5 c6 c7 c8 c9 c10 c11 c12 c13 z1 z2 z3 hB hE hen
 go_enter Try.func3, Try.ntmps3
 go_wp2_with fail
 refine (Hc1.out _).mono ?_
 rintro e w1 ⟨rfl, hbw1⟩
 have C2 := Hd (B0_.out.gr hbw1)
 have hbel3 := bel_.trans (Below.mono hbw1 bel_.size)
 clear B0_ bel_ hbw1
 go_wp2_with fail
 refine (Hc2.out _).mono ?_
 rintro e w4 ⟨rfl, hbw4⟩
 have C5 := Hd (C2.out.gr hbw4)
 have hbel6 := hbel3.trans (Below.mono hbw4 hbel3.size)
 clear C2 hbel3 hbw4
 go_wp2_with (first | (refine stM rfl 24 (.tmp 4) (.tmp 20) rfl w4 rfl (natsV .u64 ln) rfl 24 (natsV .u64 (zeros 4)) (i24 L_ln.out) (lz4 L_ln.out) n1' ?_; intro w7 hgw7 hnw7; have C10 := Hd (C5.out.gr hgw7); clear C5; have hbel11 := hbel6.trans (Below.mono hgw7 hbel6.size); clear hbel6; have D9 := Hd hnw7; clear hnw7 hgw7; generalize w4.heap.size = G8 at *) | (refine wpList_load_mid rfl 24 (.tmp 21) rfl w.heap.size 0 rfl (natsV .u64 lD) _ (sg_x (C10.out)) Try.underlying24 rfl (i24 L_lD.out) ?_) | (refine lm' (blk_all (D9.out)) Try.underlying24 (i24 L_ln.out) ?_))
 refine (Hc3.out _).mono ?_
 rintro e w12 ⟨rfl, hbw12⟩
 have C13 := Hd (C10.out.gr hbw12)
 have C14 := Hd (D9.out.gr hbw12)
 have hbel15 := hbel11.trans (Below.mono hbw12 hbel11.size)
 clear C10 D9 hbel11 hbw12
 go_wp2_with (first | (refine stM rfl 24 (.tmp 5) (.tmp 24) rfl w12 rfl (natsV .u64 ld) rfl 24 (natsV .u64 (zeros 4)) (i24 L_ld.out) (lz4 L_ld.out) n1' ?_; intro w16 hgw16 hnw16; have C19 := Hd (C13.out.gr hgw16); clear C13; have C20 := Hd (C14.out.gr hgw16); clear C14; have hbel21 := hbel15.trans (Below.mono hgw16 hbel15.size); clear hbel15; have D18 := Hd hnw16; clear hnw16 hgw16; generalize w12.heap.size = G17 at *) | (refine wpList_load_mid rfl 24 (.tmp 25) rfl w.heap.size 4 rfl (natsV .u64 lK) _ (sg_y (C19.out) L_lD.out) Try.underlying24 rfl (i24 L_lK.out) ?_) | (refine lm' (blk_all (C20.out)) Try.underlying24 (i24 L_ln.out) ?_))
 refine (Hc4.out _).mono ?_
 rintro e w22 ⟨rfl, hbw22⟩
 have C23 := Hd (C19.out.gr hbw22)
 have C24 := Hd (C20.out.gr hbw22)
 have C25 := Hd (D18.out.gr hbw22)
 have hbel26 := hbel21.trans (Below.mono hbw22 hbel21.size)
 have qa := Q1.out
 have qb := Q2.out
 clear C19 C20 D18 hbel21 hbw22
 go_wp2_with (first | (refine stM rfl 24 (.tmp 6) (.tmp 28) rfl w22 rfl (natsV .u64 lk) rfl 24 (natsV .u64 (zeros 4)) (i24 L_lk.out) (lz4 L_lk.out) n1' ?_; intro w27 hgw27 hnw27; have C30 := Hd (C23.out.gr hgw27); clear C23; have C31 := Hd (C24.out.gr hgw27); clear C24; have C32 := Hd (C25.out.gr hgw27); clear C25; have hbel33 := hbel26.trans (Below.mono hgw27 hbel26.size); clear hbel26; have D29 := Hd hnw27; clear hnw27 hgw27; generalize w22.heap.size = G28 at *) | (refine stM rfl 24 (.tmp 7) (.tmp 29) rfl w27 rfl (natsV .u64 (zeros 4)) rfl 24 (natsV .u64 (zeros 4)) (i24 z4l) (lz4 z4l) n1' ?_; intro w34 hgw34 hnw34; have C37 := Hd (C30.out.gr hgw34); clear C30; have C38 := Hd (C31.out.gr hgw34); clear C31; have C39 := Hd (C32.out.gr hgw34); clear C32; have C40 := Hd (D29.out.gr hgw34); clear D29; have hbel41 := hbel33.trans (Below.mono hgw34 hbel33.size); clear hbel33; have D36 := Hd hnw34; clear hnw34 hgw34; generalize w27.heap.size = G35 at *) | (refine lm' (blk_all (C39.out)) Try.underlying24 (i24 L_ld.out) ?_) | (refine lm' (blk_all (D36.out)) Try.underlying24 (i24 z4l) ?_) | (refine ldwM 24 (.tmp 6) rfl G28 0 rfl (natsV .u64 lk) _ (blk_all (C40.out)) Try.underlying24 rfl (i24 L_lk.out) 3 false rfl 33 rfl rfl ?_) | (refine ldwM 24 (.tmp 7) rfl G35 0 rfl (natsV .u64 (zeros 4)) _ (blk_all (D36.out)) Try.underlying24 rfl (i24 z4l) 3 false rfl 33 rfl rfl ?_))
 as_aux_lemma =>
 refine wp_region_G (fun w_ => Blk w_ G17 24 (natsV .u64 ld)) 9 (by kernel_rfl) C39.out.drew ?_
 refine tk gS1 0 rfl (lg' (fun _ hS_ => blk_all (hS_)) Try.underlying24 (i24 L_ld.out)) ?_
 try simp only [Act.put, zq]
 refine tk gS1 1 rfl (cg' Try.func8 (fun W_ _ => Hc5.out W_)) ?_
 try simp only [Act.put, zq]
 refine tk gS1 2 rfl (cg' Try.func7 (fun W_ _ => Hc6.out W_)) ?_
 try simp only [Act.put, zq]
 refine tkp gS1 3 rfl ?_
 try simp only [Act.put, zq]
 refine tkp gS1 4 rfl ?_
 try simp only [Act.put, zq]
 refine tkp gS1 5 rfl ?_
 try simp only [Act.put, zq]
 refine wpAnyG_alloc (i := 6) gS1 (by kernel_rfl) rfl (allocG (by rfl) rfl _ alloc43) ?_
 intro w42 G43 hgw42 hz_ hn_
 try simp only [Act.put, zq]
 have NG44 := Hd (Nat.ne_of_lt (Nat.lt_of_lt_of_le C39.out.drew.lt hz_))
 have NE45 := Hd (Nat.ne_of_lt (Nat.lt_of_lt_of_le C37.out.drew.lt hz_))
 have NE46 := Hd (Nat.ne_of_lt (Nat.lt_of_lt_of_le C38.out.drew.lt hz_))
 have NE47 := Hd (Nat.ne_of_lt (Nat.lt_of_lt_of_le C39.out.drew.lt hz_))
 have NE48 := Hd (Nat.ne_of_lt (Nat.lt_of_lt_of_le C40.out.drew.lt hz_))
 have NE49 := Hd (Nat.ne_of_lt (Nat.lt_of_lt_of_le D36.out.drew.lt hz_))
 have GE50 := Hd (Nat.le_trans hbel41.drew.size hz_)
 have E51 := Hd (C37.out.drew.gr hgw42)
 have E52 := Hd (C38.out.drew.gr hgw42)
 have E53 := Hd (C39.out.drew.gr hgw42)
 have E54 := Hd (C40.out.drew.gr hgw42)
 have E55 := Hd (D36.out.drew.gr hgw42)
 have hbel56 := hbel41.drew.trans (Below.mono hgw42 hbel41.drew.size)
 have D57 := Hd hn_
 clear C37 C38 C39 C40 D36 hbel41 hn_ hz_ hgw42
 refine wpAnyG_store (i := 7) (by kernel_rfl) rfl D57.out (lenEq pz9 (pv_len L_qx.out L_qy.out)) (StoresG.mk (cs := (pv qx qy false)) (by rfl) 32 _ _ rfl rfl rfl (i43 L_qx.out L_qy.out) p1_) (.inr (fun _ hS_ => hS_.row _ (NG44.out))) ?_
 intro w58 hgw58 hn_
 try simp only [Act.put, zq]
 have E59 := Hd (E51.out.grown hgw58 (fun e => NE45.out (Option.some.inj e)))
 have E60 := Hd (E52.out.grown hgw58 (fun e => NE46.out (Option.some.inj e)))
 have E61 := Hd (E53.out.grown hgw58 (fun e => NE47.out (Option.some.inj e)))
 have E62 := Hd (E54.out.grown hgw58 (fun e => NE48.out (Option.some.inj e)))
 have E63 := Hd (E55.out.grown hgw58 (fun e => NE49.out (Option.some.inj e)))
 have D64 := Hd hn_
 have hbel65 := belStore hbel56 hgw58 (GE50.out)
 clear E51 E52 E53 E54 E55 hn_ D57 hgw58
 refine tkp gS1 8 rfl ?_
 try simp only [Act.put, zq]
 refine wpAnyG_done (by kernel_rfl) ?_ _
 intro w66 hgw66
 try simp only [Act.put, zq]
 have C67 := Hd (E59.out.gr hgw66)
 have C68 := Hd (E60.out.gr hgw66)
 have C69 := Hd (E61.out.gr hgw66)
 have C70 := Hd (E62.out.gr hgw66)
 have C71 := Hd (E63.out.gr hgw66)
 have C72 := Hd (D64.out.gr hgw66)
 have hbel73 := hbel65.trans (Below.mono hgw66 hbel65.size)
 clear E59 E60 E61 E62 E63 D64 hbel65 hgw66
 as_aux_lemma =>
 go_wp2_with (first | (refine lm' (blk_all (C72.out)) Try.underlying32 (i43 L_qx.out L_qy.out) ?_))
 refine (HEN.out _).mono ?_
 rintro e w74 ⟨Ga, ca, rfl, ow74, hbw74⟩
 have C75 := Hd (C67.out.gr hbw74)
 have C76 := Hd (C68.out.gr hbw74)
 have C77 := Hd (C69.out.gr hbw74)
 have C78 := Hd (C70.out.gr hbw74)
 have C79 := Hd (C71.out.gr hbw74)
 have C80 := Hd (C72.out.gr hbw74)
 have hbel81 := hbel73.trans (Below.mono hbw74 hbel73.size)
 have HBa := Hd (own_bin ow74 HE.out (by decide))
 clear C67 C68 C69 C70 C71 C72 hbel73 ow74 hbw74
 go_wp2_with fail
 as_aux_lemma =>
 refine wp_region_G (fun w_ => Blk w_ G28 24 (natsV .u64 lk)) 9 (by kernel_rfl) C78.out.drew ?_
 refine tk gS1 0 rfl (lg' (fun _ hS_ => blk_all (hS_)) Try.underlying24 (i24 L_lk.out)) ?_
 try simp only [Act.put, zq]
 refine tk gS1 1 rfl (cg' Try.func8 (fun W_ _ => Hc5.out W_)) ?_
 try simp only [Act.put, zq]
 refine tk gS1 2 rfl (cg' Try.func7 (fun W_ _ => Hc7.out W_)) ?_
 try simp only [Act.put, zq]
 refine tkp gS1 3 rfl ?_
 try simp only [Act.put, zq]
 refine tkp gS1 4 rfl ?_
 try simp only [Act.put, zq]
 refine tkp gS1 5 rfl ?_
 try simp only [Act.put, zq]
 refine wpAnyG_alloc (i := 6) gS1 (by kernel_rfl) rfl (allocG (by rfl) rfl _ alloc43) ?_
 intro w82 G83 hgw82 hz_ hn_
 try simp only [Act.put, zq]
 have NG84 := Hd (Nat.ne_of_lt (Nat.lt_of_lt_of_le C78.out.drew.lt hz_))
 have NE85 := Hd (Nat.ne_of_lt (Nat.lt_of_lt_of_le C75.out.drew.lt hz_))
 have NE86 := Hd (Nat.ne_of_lt (Nat.lt_of_lt_of_le C76.out.drew.lt hz_))
 have NE87 := Hd (Nat.ne_of_lt (Nat.lt_of_lt_of_le C77.out.drew.lt hz_))
 have NE88 := Hd (Nat.ne_of_lt (Nat.lt_of_lt_of_le C78.out.drew.lt hz_))
 have NE89 := Hd (Nat.ne_of_lt (Nat.lt_of_lt_of_le C79.out.drew.lt hz_))
 have NE90 := Hd (Nat.ne_of_lt (Nat.lt_of_lt_of_le C80.out.drew.lt hz_))
 have NE91 := Hd (Nat.ne_of_lt (Nat.lt_of_lt_of_le (bin_lt HBa.out.drew) hz_))
 have GE92 := Hd (Nat.le_trans hbel81.drew.size hz_)
 have E93 := Hd (C75.out.drew.gr hgw82)
 have E94 := Hd (C76.out.drew.gr hgw82)
 have E95 := Hd (C77.out.drew.gr hgw82)
 have E96 := Hd (C78.out.drew.gr hgw82)
 have E97 := Hd (C79.out.drew.gr hgw82)
 have E98 := Hd (C80.out.drew.gr hgw82)
 have E99 := Hd (HBa.out.drew.gr hgw82)
 have hbel100 := hbel81.drew.trans (Below.mono hgw82 hbel81.drew.size)
 have D101 := Hd hn_
 clear C75 C76 C77 C78 C79 C80 HBa hbel81 hn_ hz_ hgw82
 refine wpAnyG_store (i := 7) (by kernel_rfl) rfl D101.out (lenEq pz9 (pv_len L_px.out L_py.out)) (StoresG.mk (cs := (pv px py ip)) (by rfl) 32 _ _ rfl rfl rfl (i43 L_px.out L_py.out) p1_) (.inr (fun _ hS_ => hS_.row _ (NG84.out))) ?_
 intro w102 hgw102 hn_
 try simp only [Act.put, zq]
 have E103 := Hd (E93.out.grown hgw102 (fun e => NE85.out (Option.some.inj e)))
 have E104 := Hd (E94.out.grown hgw102 (fun e => NE86.out (Option.some.inj e)))
 have E105 := Hd (E95.out.grown hgw102 (fun e => NE87.out (Option.some.inj e)))
 have E106 := Hd (E96.out.grown hgw102 (fun e => NE88.out (Option.some.inj e)))
 have E107 := Hd (E97.out.grown hgw102 (fun e => NE89.out (Option.some.inj e)))
 have E108 := Hd (E98.out.grown hgw102 (fun e => NE90.out (Option.some.inj e)))
 clear E93 E94 E95 E96 E97 E98
 have E109 := Hd (E99.out.grown hgw102 (fun b_ hb_ _ => by cases hb_; exact NE91.out))
 have D110 := Hd hn_
 have hbel111 := belStore hbel100 hgw102 (GE92.out)
 clear E99 hn_ D101 hgw102
 refine tkp gS1 8 rfl ?_
 try simp only [Act.put, zq]
 refine wpAnyG_done (by kernel_rfl) ?_ _
 intro w112 hgw112
 try simp only [Act.put, zq]
 have C113 := Hd (E103.out.gr hgw112)
 have C114 := Hd (E104.out.gr hgw112)
 have C115 := Hd (E105.out.gr hgw112)
 have C116 := Hd (E106.out.gr hgw112)
 have C117 := Hd (E107.out.gr hgw112)
 have C118 := Hd (E108.out.gr hgw112)
 have C119 := Hd (E109.out.gr hgw112)
 have C120 := Hd (D110.out.gr hgw112)
 have hbel121 := hbel111.trans (Below.mono hgw112 hbel111.size)
 clear E103 E104 E105 E106 E107 E108 E109 D110 hbel111 hgw112
 as_aux_lemma =>
 go_wp2_with (first | (refine lm' (pv_x (C120.out)) Try.underlying24 (i24 L_px.out) ?_) | (refine lm' (blk_all (C114.out)) Try.underlying24 (i24 L_ln.out) ?_))
 refine (Hc8.out _).mono ?_
 rintro e w122 ⟨rfl, hbw122⟩
 have C123 := Hd (C113.out.gr hbw122)
 have C124 := Hd (C114.out.gr hbw122)
 have C125 := Hd (C115.out.gr hbw122)
 have C126 := Hd (C116.out.gr hbw122)
 have C127 := Hd (C117.out.gr hbw122)
 have C128 := Hd (C118.out.gr hbw122)
 have C129 := Hd (C119.out.gr hbw122)
 have C130 := Hd (C120.out.gr hbw122)
 have hbel131 := hbel121.trans (Below.mono hbw122 hbel121.size)
 clear C113 C114 C115 C116 C117 C118 C119 C120 hbel121 hbw122
 go_wp2_with (first | (refine stM rfl 24 (.tmp 14) (.tmp 73) rfl w122 rfl (natsV .u64 lr) rfl 24 (natsV .u64 (zeros 4)) (i24 L_lr.out) (lz4 L_lr.out) n1' ?_; intro w132 hgw132 hnw132; have NE135 := Hd (Nat.ne_of_lt (C128.out.lt)); have NE136 := Hd (Nat.ne_of_lt (C130.out.lt)); have C137 := Hd (C123.out.gr hgw132); clear C123; have C138 := Hd (C124.out.gr hgw132); clear C124; have C139 := Hd (C125.out.gr hgw132); clear C125; have C140 := Hd (C126.out.gr hgw132); clear C126; have C141 := Hd (C127.out.gr hgw132); clear C127; have C142 := Hd (C128.out.gr hgw132); clear C128; have C143 := Hd (C129.out.gr hgw132); clear C129; have C144 := Hd (C130.out.gr hgw132); clear C130; have hbel145 := hbel131.trans (Below.mono hgw132 hbel131.size); clear hbel131; have D134 := Hd hnw132; clear hnw132 hgw132; generalize w122.heap.size = G133 at *))
 as_aux_lemma =>
 refine wp_region_G (fun w_ => Blk w_ w.heap.size 27 (sgv lD lK (.slice A n c)) ∧ Blk w_ G133 24 (natsV .u64 lr) ∧ Blk w_ G17 24 (natsV .u64 ld) ∧ Blk w_ G8 24 (natsV .u64 ln) ∧ Below w.heap.size w w_) 9 (by kernel_rfl) ⟨C137.out.drew, D134.out.drew, C139.out.drew, C138.out.drew, hbel145.drew⟩ ?_
 refine tkp gB4 0 rfl ?_
 try simp only [Act.put, zq]
 refine tk gB4 1 rfl (worldG (by rfl) (by intro w_ hS_; have cw := sg_s (hS_.1) L_lD.out L_lK.out; go_simp; first | done | with_reducible rfl)) ?_
 try simp only [Act.put, zq]
 refine tk gB4 2 rfl (cg' Try.func11 (fun W_ hS_ => Hc9.out _ hS_.2.2.2.2)) ?_
 try simp only [Act.put, zq]
 refine tk gB4 3 rfl (lg' (fun _ hS_ => blk_all (hS_.2.1)) Try.underlying24 (i24 L_lr.out)) ?_
 try simp only [Act.put, zq]
 refine tk gB4 4 rfl (lg' (fun _ hS_ => blk_all (hS_.2.2.1)) Try.underlying24 (i24 L_ld.out)) ?_
 try simp only [Act.put, zq]
 refine tk gB4 5 rfl (cg' Try.func12 (fun W_ hS_ => Hc10.out W_)) ?_
 try simp only [Act.put, zq]
 refine tk gB4 6 rfl (lg' (fun _ hS_ => blk_all (hS_.2.2.2.1)) Try.underlying24 (i24 L_ln.out)) ?_
 try simp only [Act.put, zq]
 refine tk gB4 7 rfl (cg' Try.func10 (fun W_ hS_ => Hc11.out W_)) ?_
 try simp only [Act.put, zq]
 refine wpAnyG_def (i := 8) (j := 9) gB4 (by kernel_rfl) (by kernel_rfl) (by kernel_rfl) rfl rfl rfl (allocG (by rfl) rfl _ alloc24) (lz4 L_l2.out) (fun _ => StoresG.mk (cs := (natsV .u64 l2)) (by rfl) 24 _ _ rfl rfl rfl (i24 L_l2.out) n1') ?_
 intro w146 G147 hgw146 hz_ hn_
 try simp only [Act.put, zq]
 have NE148 := Hd (Nat.ne_of_lt (Nat.lt_of_lt_of_le C137.out.drew.lt hz_))
 have NE149 := Hd (Nat.ne_of_lt (Nat.lt_of_lt_of_le C138.out.drew.lt hz_))
 have NE150 := Hd (Nat.ne_of_lt (Nat.lt_of_lt_of_le C139.out.drew.lt hz_))
 have NE151 := Hd (Nat.ne_of_lt (Nat.lt_of_lt_of_le C140.out.drew.lt hz_))
 have NE152 := Hd (Nat.ne_of_lt (Nat.lt_of_lt_of_le C141.out.drew.lt hz_))
 have NE153 := Hd (Nat.ne_of_lt (Nat.lt_of_lt_of_le C142.out.drew.lt hz_))
 have NE154 := Hd (Nat.ne_of_lt (Nat.lt_of_lt_of_le (bin_lt C143.out.drew) hz_))
 have NE155 := Hd (Nat.ne_of_lt (Nat.lt_of_lt_of_le C144.out.drew.lt hz_))
 have NE156 := Hd (Nat.ne_of_lt (Nat.lt_of_lt_of_le D134.out.drew.lt hz_))
 have GE157 := Hd (Nat.le_trans hbel145.drew.size hz_)
 have E158 := Hd (C137.out.drew.gr hgw146)
 have E159 := Hd (C138.out.drew.gr hgw146)
 have E160 := Hd (C139.out.drew.gr hgw146)
 have E161 := Hd (C140.out.drew.gr hgw146)
 have E162 := Hd (C141.out.drew.gr hgw146)
 have E163 := Hd (C142.out.drew.gr hgw146)
 have E164 := Hd (C143.out.drew.gr hgw146)
 have E165 := Hd (C144.out.drew.gr hgw146)
 have E166 := Hd (D134.out.drew.gr hgw146)
 have hbel167 := hbel145.drew.trans (Below.mono hgw146 hbel145.drew.size)
 have D168 := Hd hn_
 clear C137 C138 C139 C140 C141 C142 C143 C144 D134 hbel145 hn_ hz_ hgw146
 as_aux_lemma =>
 go_wp2_with fail
 as_aux_lemma =>
 refine wp_region_G (fun w_ => Blk w_ G147 24 (natsV .u64 l2) ∧ Blk w_ G28 24 (natsV .u64 lk)) 4 (by kernel_rfl) ⟨D168.out.drew, E161.out.drew⟩ ?_
 refine tk gS2 0 rfl (lg' (fun _ hS_ => blk_all (hS_.1)) Try.underlying24 (i24 L_l2.out)) ?_
 try simp only [Act.put, zq]
 refine tk gS2 1 rfl (lg' (fun _ hS_ => blk_all (hS_.2)) Try.underlying24 (i24 L_lk.out)) ?_
 try simp only [Act.put, zq]
 refine tk gS2 2 rfl (cg' Try.func13 (fun W_ _ => Hc12.out W_)) ?_
 try simp only [Act.put, zq]
 refine tk gS2 3 rfl (cg' Try.func12 (fun W_ _ => Hc13.out W_)) ?_
 try simp only [Act.put, zq]
 refine wpAnyG_set (i := 4) (by kernel_rfl) (by kernel_rfl) rfl rfl D168.out.drew (lenEq (nl' L_l2.out) (nl' L_ls.out)) (StoresG.mk (cs := (natsV .u64 ls)) (by rfl) 24 _ _ rfl rfl rfl (i24 L_ls.out) n1') ?_
 intro w169 hgw169 hn_
 try simp only [Act.put, zq]
 have E170 := Hd (E158.out.drew.grown hgw169 (fun e => NE148.out (Option.some.inj e)))
 have E171 := Hd (E159.out.drew.grown hgw169 (fun e => NE149.out (Option.some.inj e)))
 have E172 := Hd (E160.out.drew.grown hgw169 (fun e => NE150.out (Option.some.inj e)))
 have E173 := Hd (E161.out.drew.grown hgw169 (fun e => NE151.out (Option.some.inj e)))
 have E174 := Hd (E162.out.drew.grown hgw169 (fun e => NE152.out (Option.some.inj e)))
 have E175 := Hd (E163.out.drew.grown hgw169 (fun e => NE153.out (Option.some.inj e)))
 clear E158 E159 E160 E161 E162 E163
 have E176 := Hd (E164.out.drew.grown hgw169 (fun b_ hb_ _ => by cases hb_; exact NE154.out))
 have E177 := Hd (E165.out.drew.grown hgw169 (fun e => NE155.out (Option.some.inj e)))
 have E178 := Hd (E166.out.drew.grown hgw169 (fun e => NE156.out (Option.some.inj e)))
 have D179 := Hd hn_
 have hbel180 := belStore hbel167.drew hgw169 (GE157.out)
 clear E164 E165 E166 hn_ D168 hgw169
 as_aux_lemma =>
 have qc := Q3.out
 go_wp2_with (first | (refine lm' (blk_all (E178.out)) Try.underlying24 (i24 L_lr.out) ?_) | (refine lm' (blk_all (E174.out)) Try.underlying24 (i24 z4l) ?_) | (refine ldwM 24 (.tmp 15) rfl G147 0 rfl (natsV .u64 ls) _ (blk_all (D179.out)) Try.underlying24 rfl (i24 L_ls.out) 3 false rfl 89 rfl rfl ?_) | (refine ldwM 24 (.tmp 7) rfl G35 0 rfl (natsV .u64 (zeros 4)) _ (blk_all (E174.out)) Try.underlying24 rfl (i24 z4l) 3 false rfl 89 rfl rfl ?_))
 go_ret
 exact ⟨rfl, hbel180⟩
theorem wsigned_s0 {lD lK ln ld lk gx gy qx qy px py lr lz l1 l2 li ls : List Nat} {A : Option Addr} {n c : Nat} {l : List Nat} {ip : Bool} {E L L2 : List Nat} (w : World) (hlD : lD.length = 4) (hlK : lK.length = 4) (hln : ln.length = 4) (hld : ld.length = 4) (hlk : lk.length = 4) (hgx : gx.length = 4) (hgy : gy.length = 4) (hqx : qx.length = 4) (hqy : qy.length = 4) (hpx : px.length = 4) (hpy : py.length = 4) (hlr : lr.length = 4) (hlz : lz.length = 4) (hl1 : l1.length = 4) (hl2 : l2.length = 4) (hli : li.length = 4) (hls : ls.length = 4)
   (z1 : ¬ ld = zeros 4)
   (z2 : ¬ lk = zeros 4)
   (z3 : ¬ lr = zeros 4)
   (z4 : ls = zeros 4)
   (hB : BIn w A n c l)
   (hE : ∀ z ∈ E, z < 256)
   (hen : ∀ w, Calls Try.prog 9 #[.agg (pv qx qy false).toArray] w (ListOwn 65 E w))
   (c1 : Ans 4 #[] (.bool true))
   (c2 : Ans 5 #[] (.agg (natsV .u64 ln).toArray))
   (c3 : Ans 6 #[.agg (natsV .u64 lD).toArray, .bool false, .agg (natsV .u64 ln).toArray] (.agg (natsV .u64 ld).toArray))
   (c4 : Ans 6 #[.agg (natsV .u64 lK).toArray, .bool false, .agg (natsV .u64 ln).toArray] (.agg (natsV .u64 lk).toArray))
   (c5 : Ans 8 #[] (.agg (pv gx gy false).toArray))
   (c6 : Ans 7 #[.agg (natsV .u64 ld).toArray, .agg (pv gx gy false).toArray] (.tuple #[.agg (pv qx qy false).toArray, .int .i64 0]))
   (c7 : Ans 7 #[.agg (natsV .u64 lk).toArray, .agg (pv gx gy false).toArray] (.tuple #[.agg (pv px py ip).toArray, .int .i64 0]))
   (c8 : Ans 6 #[.agg (natsV .u64 px).toArray, .bool false, .agg (natsV .u64 ln).toArray] (.agg (natsV .u64 lr).toArray))
   (c9 : ∀ W, Below w.heap.size w W → Calls Try.prog 11 #[.slice A n c] W fun e w' => e = .returned (.agg (natsV .u64 lz).toArray) ∧ Below W.heap.size W w')
   (c10 : Ans 12 #[.agg (natsV .u64 lr).toArray, .agg (natsV .u64 ld).toArray] (.agg (natsV .u64 l1).toArray))
   (c11 : Ans 10 #[.agg (natsV .u64 lz).toArray, .agg (natsV .u64 l1).toArray, .agg (natsV .u64 ln).toArray] (.agg (natsV .u64 l2).toArray))
   (c12 : Ans 13 #[.agg (natsV .u64 lk).toArray] (.agg (natsV .u64 li).toArray))
   (c13 : Ans 12 #[.agg (natsV .u64 l2).toArray, .agg (natsV .u64 li).toArray] (.agg (natsV .u64 ls).toArray)) :
   Calls Try.prog 3 #[.agg (sgv lD lK (.slice A n c)).toArray] w fun e w' => e = .returned (.bool true) ∧ Below w.heap.size w w' := by
 have L_lD := Hd hlD
 have L_lK := Hd hlK
 have L_ln := Hd hln
 have L_ld := Hd hld
 have L_lk := Hd hlk
 have L_gx := Hd hgx
 have L_gy := Hd hgy
 have L_qx := Hd hqx
 have L_qy := Hd hqy
 have L_px := Hd hpx
 have L_py := Hd hpy
 have L_lr := Hd hlr
 have L_lz := Hd hlz
 have L_l1 := Hd hl1
 have L_l2 := Hd hl2
 have L_li := Hd hli
 have L_ls := Hd hls
 have Hc1 := Hd c1
 have Hc2 := Hd c2
 have Hc3 := Hd c3
 have Hc4 := Hd c4
 have Hc5 := Hd c5
 have Hc6 := Hd c6
 have Hc7 := Hd c7
 have Hc8 := Hd c8
 have Hc9 := Hd c9
 have Hc10 := Hd c10
 have Hc11 := Hd c11
 have Hc12 := Hd c12
 have Hc13 := Hd c13
 have Q1 := Hd (fun w => (eql24 ld (zeros 4) L_ld.out rfl w).trans (by rw [decide_eq_false z1]))
 have Q2 := Hd (fun w => (eql24 lk (zeros 4) L_lk.out rfl w).trans (by rw [decide_eq_false z2]))
 have Q3 := Hd (fun w => (eql24 lr (zeros 4) L_lr.out rfl w).trans (by rw [decide_eq_false z3]))
 have Q4 := Hd (fun w => (eql24 ls (zeros 4) L_ls.out rfl w).trans (by rw [decide_eq_true z4]))
 have HBI := Hd hB
 have HE := Hd hE
 have HEN := Hd hen
 have B0_ := Hd (Blk.new w  27 (sgv lD lK (.slice A n c)))
 have bel_ := ((Below.refl w.heap.size w).alloc (Nat.le_refl _) (.cells (sgv lD lK (.slice A n c)).toArray 27))
 clear hlD hlK hln hld hlk hgx hgy hqx hqy hpx hpy hlr hlz hl1 hl2 hli hls c1 c2 c3 c4 c5 c6 c7 c8 c9 c10 c11 c12 c13 z1 z2 z3 z4 hB hE hen
 go_enter Try.func3, Try.ntmps3
 go_wp2_with fail
 refine (Hc1.out _).mono ?_
 rintro e w1 ⟨rfl, hbw1⟩
 have C2 := Hd (B0_.out.gr hbw1)
 have hbel3 := bel_.trans (Below.mono hbw1 bel_.size)
 clear B0_ bel_ hbw1
 go_wp2_with fail
 refine (Hc2.out _).mono ?_
 rintro e w4 ⟨rfl, hbw4⟩
 have C5 := Hd (C2.out.gr hbw4)
 have hbel6 := hbel3.trans (Below.mono hbw4 hbel3.size)
 clear C2 hbel3 hbw4
 go_wp2_with (first | (refine stM rfl 24 (.tmp 4) (.tmp 20) rfl w4 rfl (natsV .u64 ln) rfl 24 (natsV .u64 (zeros 4)) (i24 L_ln.out) (lz4 L_ln.out) n1' ?_; intro w7 hgw7 hnw7; have C10 := Hd (C5.out.gr hgw7); clear C5; have hbel11 := hbel6.trans (Below.mono hgw7 hbel6.size); clear hbel6; have D9 := Hd hnw7; clear hnw7 hgw7; generalize w4.heap.size = G8 at *) | (refine wpList_load_mid rfl 24 (.tmp 21) rfl w.heap.size 0 rfl (natsV .u64 lD) _ (sg_x (C10.out)) Try.underlying24 rfl (i24 L_lD.out) ?_) | (refine lm' (blk_all (D9.out)) Try.underlying24 (i24 L_ln.out) ?_))
 refine (Hc3.out _).mono ?_
 rintro e w12 ⟨rfl, hbw12⟩
 have C13 := Hd (C10.out.gr hbw12)
 have C14 := Hd (D9.out.gr hbw12)
 have hbel15 := hbel11.trans (Below.mono hbw12 hbel11.size)
 clear C10 D9 hbel11 hbw12
 go_wp2_with (first | (refine stM rfl 24 (.tmp 5) (.tmp 24) rfl w12 rfl (natsV .u64 ld) rfl 24 (natsV .u64 (zeros 4)) (i24 L_ld.out) (lz4 L_ld.out) n1' ?_; intro w16 hgw16 hnw16; have C19 := Hd (C13.out.gr hgw16); clear C13; have C20 := Hd (C14.out.gr hgw16); clear C14; have hbel21 := hbel15.trans (Below.mono hgw16 hbel15.size); clear hbel15; have D18 := Hd hnw16; clear hnw16 hgw16; generalize w12.heap.size = G17 at *) | (refine wpList_load_mid rfl 24 (.tmp 25) rfl w.heap.size 4 rfl (natsV .u64 lK) _ (sg_y (C19.out) L_lD.out) Try.underlying24 rfl (i24 L_lK.out) ?_) | (refine lm' (blk_all (C20.out)) Try.underlying24 (i24 L_ln.out) ?_))
 refine (Hc4.out _).mono ?_
 rintro e w22 ⟨rfl, hbw22⟩
 have C23 := Hd (C19.out.gr hbw22)
 have C24 := Hd (C20.out.gr hbw22)
 have C25 := Hd (D18.out.gr hbw22)
 have hbel26 := hbel21.trans (Below.mono hbw22 hbel21.size)
 have qa := Q1.out
 have qb := Q2.out
 clear C19 C20 D18 hbel21 hbw22
 go_wp2_with (first | (refine stM rfl 24 (.tmp 6) (.tmp 28) rfl w22 rfl (natsV .u64 lk) rfl 24 (natsV .u64 (zeros 4)) (i24 L_lk.out) (lz4 L_lk.out) n1' ?_; intro w27 hgw27 hnw27; have C30 := Hd (C23.out.gr hgw27); clear C23; have C31 := Hd (C24.out.gr hgw27); clear C24; have C32 := Hd (C25.out.gr hgw27); clear C25; have hbel33 := hbel26.trans (Below.mono hgw27 hbel26.size); clear hbel26; have D29 := Hd hnw27; clear hnw27 hgw27; generalize w22.heap.size = G28 at *) | (refine stM rfl 24 (.tmp 7) (.tmp 29) rfl w27 rfl (natsV .u64 (zeros 4)) rfl 24 (natsV .u64 (zeros 4)) (i24 z4l) (lz4 z4l) n1' ?_; intro w34 hgw34 hnw34; have C37 := Hd (C30.out.gr hgw34); clear C30; have C38 := Hd (C31.out.gr hgw34); clear C31; have C39 := Hd (C32.out.gr hgw34); clear C32; have C40 := Hd (D29.out.gr hgw34); clear D29; have hbel41 := hbel33.trans (Below.mono hgw34 hbel33.size); clear hbel33; have D36 := Hd hnw34; clear hnw34 hgw34; generalize w27.heap.size = G35 at *) | (refine lm' (blk_all (C39.out)) Try.underlying24 (i24 L_ld.out) ?_) | (refine lm' (blk_all (D36.out)) Try.underlying24 (i24 z4l) ?_) | (refine ldwM 24 (.tmp 6) rfl G28 0 rfl (natsV .u64 lk) _ (blk_all (C40.out)) Try.underlying24 rfl (i24 L_lk.out) 3 false rfl 33 rfl rfl ?_) | (refine ldwM 24 (.tmp 7) rfl G35 0 rfl (natsV .u64 (zeros 4)) _ (blk_all (D36.out)) Try.underlying24 rfl (i24 z4l) 3 false rfl 33 rfl rfl ?_))
 as_aux_lemma =>
 refine wp_region_G (fun w_ => Blk w_ G17 24 (natsV .u64 ld)) 9 (by kernel_rfl) C39.out.drew ?_
 refine tk gS1 0 rfl (lg' (fun _ hS_ => blk_all (hS_)) Try.underlying24 (i24 L_ld.out)) ?_
 try simp only [Act.put, zq]
 refine tk gS1 1 rfl (cg' Try.func8 (fun W_ _ => Hc5.out W_)) ?_
 try simp only [Act.put, zq]
 refine tk gS1 2 rfl (cg' Try.func7 (fun W_ _ => Hc6.out W_)) ?_
 try simp only [Act.put, zq]
 refine tkp gS1 3 rfl ?_
 try simp only [Act.put, zq]
 refine tkp gS1 4 rfl ?_
 try simp only [Act.put, zq]
 refine tkp gS1 5 rfl ?_
 try simp only [Act.put, zq]
 refine wpAnyG_alloc (i := 6) gS1 (by kernel_rfl) rfl (allocG (by rfl) rfl _ alloc43) ?_
 intro w42 G43 hgw42 hz_ hn_
 try simp only [Act.put, zq]
 have NG44 := Hd (Nat.ne_of_lt (Nat.lt_of_lt_of_le C39.out.drew.lt hz_))
 have NE45 := Hd (Nat.ne_of_lt (Nat.lt_of_lt_of_le C37.out.drew.lt hz_))
 have NE46 := Hd (Nat.ne_of_lt (Nat.lt_of_lt_of_le C38.out.drew.lt hz_))
 have NE47 := Hd (Nat.ne_of_lt (Nat.lt_of_lt_of_le C39.out.drew.lt hz_))
 have NE48 := Hd (Nat.ne_of_lt (Nat.lt_of_lt_of_le C40.out.drew.lt hz_))
 have NE49 := Hd (Nat.ne_of_lt (Nat.lt_of_lt_of_le D36.out.drew.lt hz_))
 have GE50 := Hd (Nat.le_trans hbel41.drew.size hz_)
 have E51 := Hd (C37.out.drew.gr hgw42)
 have E52 := Hd (C38.out.drew.gr hgw42)
 have E53 := Hd (C39.out.drew.gr hgw42)
 have E54 := Hd (C40.out.drew.gr hgw42)
 have E55 := Hd (D36.out.drew.gr hgw42)
 have hbel56 := hbel41.drew.trans (Below.mono hgw42 hbel41.drew.size)
 have D57 := Hd hn_
 clear C37 C38 C39 C40 D36 hbel41 hn_ hz_ hgw42
 refine wpAnyG_store (i := 7) (by kernel_rfl) rfl D57.out (lenEq pz9 (pv_len L_qx.out L_qy.out)) (StoresG.mk (cs := (pv qx qy false)) (by rfl) 32 _ _ rfl rfl rfl (i43 L_qx.out L_qy.out) p1_) (.inr (fun _ hS_ => hS_.row _ (NG44.out))) ?_
 intro w58 hgw58 hn_
 try simp only [Act.put, zq]
 have E59 := Hd (E51.out.grown hgw58 (fun e => NE45.out (Option.some.inj e)))
 have E60 := Hd (E52.out.grown hgw58 (fun e => NE46.out (Option.some.inj e)))
 have E61 := Hd (E53.out.grown hgw58 (fun e => NE47.out (Option.some.inj e)))
 have E62 := Hd (E54.out.grown hgw58 (fun e => NE48.out (Option.some.inj e)))
 have E63 := Hd (E55.out.grown hgw58 (fun e => NE49.out (Option.some.inj e)))
 have D64 := Hd hn_
 have hbel65 := belStore hbel56 hgw58 (GE50.out)
 clear E51 E52 E53 E54 E55 hn_ D57 hgw58
 refine tkp gS1 8 rfl ?_
 try simp only [Act.put, zq]
 refine wpAnyG_done (by kernel_rfl) ?_ _
 intro w66 hgw66
 try simp only [Act.put, zq]
 have C67 := Hd (E59.out.gr hgw66)
 have C68 := Hd (E60.out.gr hgw66)
 have C69 := Hd (E61.out.gr hgw66)
 have C70 := Hd (E62.out.gr hgw66)
 have C71 := Hd (E63.out.gr hgw66)
 have C72 := Hd (D64.out.gr hgw66)
 have hbel73 := hbel65.trans (Below.mono hgw66 hbel65.size)
 clear E59 E60 E61 E62 E63 D64 hbel65 hgw66
 as_aux_lemma =>
 go_wp2_with (first | (refine lm' (blk_all (C72.out)) Try.underlying32 (i43 L_qx.out L_qy.out) ?_))
 refine (HEN.out _).mono ?_
 rintro e w74 ⟨Ga, ca, rfl, ow74, hbw74⟩
 have C75 := Hd (C67.out.gr hbw74)
 have C76 := Hd (C68.out.gr hbw74)
 have C77 := Hd (C69.out.gr hbw74)
 have C78 := Hd (C70.out.gr hbw74)
 have C79 := Hd (C71.out.gr hbw74)
 have C80 := Hd (C72.out.gr hbw74)
 have hbel81 := hbel73.trans (Below.mono hbw74 hbel73.size)
 have HBa := Hd (own_bin ow74 HE.out (by decide))
 clear C67 C68 C69 C70 C71 C72 hbel73 ow74 hbw74
 go_wp2_with fail
 as_aux_lemma =>
 refine wp_region_G (fun w_ => Blk w_ G28 24 (natsV .u64 lk)) 9 (by kernel_rfl) C78.out.drew ?_
 refine tk gS1 0 rfl (lg' (fun _ hS_ => blk_all (hS_)) Try.underlying24 (i24 L_lk.out)) ?_
 try simp only [Act.put, zq]
 refine tk gS1 1 rfl (cg' Try.func8 (fun W_ _ => Hc5.out W_)) ?_
 try simp only [Act.put, zq]
 refine tk gS1 2 rfl (cg' Try.func7 (fun W_ _ => Hc7.out W_)) ?_
 try simp only [Act.put, zq]
 refine tkp gS1 3 rfl ?_
 try simp only [Act.put, zq]
 refine tkp gS1 4 rfl ?_
 try simp only [Act.put, zq]
 refine tkp gS1 5 rfl ?_
 try simp only [Act.put, zq]
 refine wpAnyG_alloc (i := 6) gS1 (by kernel_rfl) rfl (allocG (by rfl) rfl _ alloc43) ?_
 intro w82 G83 hgw82 hz_ hn_
 try simp only [Act.put, zq]
 have NG84 := Hd (Nat.ne_of_lt (Nat.lt_of_lt_of_le C78.out.drew.lt hz_))
 have NE85 := Hd (Nat.ne_of_lt (Nat.lt_of_lt_of_le C75.out.drew.lt hz_))
 have NE86 := Hd (Nat.ne_of_lt (Nat.lt_of_lt_of_le C76.out.drew.lt hz_))
 have NE87 := Hd (Nat.ne_of_lt (Nat.lt_of_lt_of_le C77.out.drew.lt hz_))
 have NE88 := Hd (Nat.ne_of_lt (Nat.lt_of_lt_of_le C78.out.drew.lt hz_))
 have NE89 := Hd (Nat.ne_of_lt (Nat.lt_of_lt_of_le C79.out.drew.lt hz_))
 have NE90 := Hd (Nat.ne_of_lt (Nat.lt_of_lt_of_le C80.out.drew.lt hz_))
 have NE91 := Hd (Nat.ne_of_lt (Nat.lt_of_lt_of_le (bin_lt HBa.out.drew) hz_))
 have GE92 := Hd (Nat.le_trans hbel81.drew.size hz_)
 have E93 := Hd (C75.out.drew.gr hgw82)
 have E94 := Hd (C76.out.drew.gr hgw82)
 have E95 := Hd (C77.out.drew.gr hgw82)
 have E96 := Hd (C78.out.drew.gr hgw82)
 have E97 := Hd (C79.out.drew.gr hgw82)
 have E98 := Hd (C80.out.drew.gr hgw82)
 have E99 := Hd (HBa.out.drew.gr hgw82)
 have hbel100 := hbel81.drew.trans (Below.mono hgw82 hbel81.drew.size)
 have D101 := Hd hn_
 clear C75 C76 C77 C78 C79 C80 HBa hbel81 hn_ hz_ hgw82
 refine wpAnyG_store (i := 7) (by kernel_rfl) rfl D101.out (lenEq pz9 (pv_len L_px.out L_py.out)) (StoresG.mk (cs := (pv px py ip)) (by rfl) 32 _ _ rfl rfl rfl (i43 L_px.out L_py.out) p1_) (.inr (fun _ hS_ => hS_.row _ (NG84.out))) ?_
 intro w102 hgw102 hn_
 try simp only [Act.put, zq]
 have E103 := Hd (E93.out.grown hgw102 (fun e => NE85.out (Option.some.inj e)))
 have E104 := Hd (E94.out.grown hgw102 (fun e => NE86.out (Option.some.inj e)))
 have E105 := Hd (E95.out.grown hgw102 (fun e => NE87.out (Option.some.inj e)))
 have E106 := Hd (E96.out.grown hgw102 (fun e => NE88.out (Option.some.inj e)))
 have E107 := Hd (E97.out.grown hgw102 (fun e => NE89.out (Option.some.inj e)))
 have E108 := Hd (E98.out.grown hgw102 (fun e => NE90.out (Option.some.inj e)))
 clear E93 E94 E95 E96 E97 E98
 have E109 := Hd (E99.out.grown hgw102 (fun b_ hb_ _ => by cases hb_; exact NE91.out))
 have D110 := Hd hn_
 have hbel111 := belStore hbel100 hgw102 (GE92.out)
 clear E99 hn_ D101 hgw102
 refine tkp gS1 8 rfl ?_
 try simp only [Act.put, zq]
 refine wpAnyG_done (by kernel_rfl) ?_ _
 intro w112 hgw112
 try simp only [Act.put, zq]
 have C113 := Hd (E103.out.gr hgw112)
 have C114 := Hd (E104.out.gr hgw112)
 have C115 := Hd (E105.out.gr hgw112)
 have C116 := Hd (E106.out.gr hgw112)
 have C117 := Hd (E107.out.gr hgw112)
 have C118 := Hd (E108.out.gr hgw112)
 have C119 := Hd (E109.out.gr hgw112)
 have C120 := Hd (D110.out.gr hgw112)
 have hbel121 := hbel111.trans (Below.mono hgw112 hbel111.size)
 clear E103 E104 E105 E106 E107 E108 E109 D110 hbel111 hgw112
 as_aux_lemma =>
 go_wp2_with (first | (refine lm' (pv_x (C120.out)) Try.underlying24 (i24 L_px.out) ?_) | (refine lm' (blk_all (C114.out)) Try.underlying24 (i24 L_ln.out) ?_))
 refine (Hc8.out _).mono ?_
 rintro e w122 ⟨rfl, hbw122⟩
 have C123 := Hd (C113.out.gr hbw122)
 have C124 := Hd (C114.out.gr hbw122)
 have C125 := Hd (C115.out.gr hbw122)
 have C126 := Hd (C116.out.gr hbw122)
 have C127 := Hd (C117.out.gr hbw122)
 have C128 := Hd (C118.out.gr hbw122)
 have C129 := Hd (C119.out.gr hbw122)
 have C130 := Hd (C120.out.gr hbw122)
 have hbel131 := hbel121.trans (Below.mono hbw122 hbel121.size)
 clear C113 C114 C115 C116 C117 C118 C119 C120 hbel121 hbw122
 go_wp2_with (first | (refine stM rfl 24 (.tmp 14) (.tmp 73) rfl w122 rfl (natsV .u64 lr) rfl 24 (natsV .u64 (zeros 4)) (i24 L_lr.out) (lz4 L_lr.out) n1' ?_; intro w132 hgw132 hnw132; have NE135 := Hd (Nat.ne_of_lt (C128.out.lt)); have NE136 := Hd (Nat.ne_of_lt (C130.out.lt)); have C137 := Hd (C123.out.gr hgw132); clear C123; have C138 := Hd (C124.out.gr hgw132); clear C124; have C139 := Hd (C125.out.gr hgw132); clear C125; have C140 := Hd (C126.out.gr hgw132); clear C126; have C141 := Hd (C127.out.gr hgw132); clear C127; have C142 := Hd (C128.out.gr hgw132); clear C128; have C143 := Hd (C129.out.gr hgw132); clear C129; have C144 := Hd (C130.out.gr hgw132); clear C130; have hbel145 := hbel131.trans (Below.mono hgw132 hbel131.size); clear hbel131; have D134 := Hd hnw132; clear hnw132 hgw132; generalize w122.heap.size = G133 at *))
 as_aux_lemma =>
 refine wp_region_G (fun w_ => Blk w_ w.heap.size 27 (sgv lD lK (.slice A n c)) ∧ Blk w_ G133 24 (natsV .u64 lr) ∧ Blk w_ G17 24 (natsV .u64 ld) ∧ Blk w_ G8 24 (natsV .u64 ln) ∧ Below w.heap.size w w_) 9 (by kernel_rfl) ⟨C137.out.drew, D134.out.drew, C139.out.drew, C138.out.drew, hbel145.drew⟩ ?_
 refine tkp gB4 0 rfl ?_
 try simp only [Act.put, zq]
 refine tk gB4 1 rfl (worldG (by rfl) (by intro w_ hS_; have cw := sg_s (hS_.1) L_lD.out L_lK.out; go_simp; first | done | with_reducible rfl)) ?_
 try simp only [Act.put, zq]
 refine tk gB4 2 rfl (cg' Try.func11 (fun W_ hS_ => Hc9.out _ hS_.2.2.2.2)) ?_
 try simp only [Act.put, zq]
 refine tk gB4 3 rfl (lg' (fun _ hS_ => blk_all (hS_.2.1)) Try.underlying24 (i24 L_lr.out)) ?_
 try simp only [Act.put, zq]
 refine tk gB4 4 rfl (lg' (fun _ hS_ => blk_all (hS_.2.2.1)) Try.underlying24 (i24 L_ld.out)) ?_
 try simp only [Act.put, zq]
 refine tk gB4 5 rfl (cg' Try.func12 (fun W_ hS_ => Hc10.out W_)) ?_
 try simp only [Act.put, zq]
 refine tk gB4 6 rfl (lg' (fun _ hS_ => blk_all (hS_.2.2.2.1)) Try.underlying24 (i24 L_ln.out)) ?_
 try simp only [Act.put, zq]
 refine tk gB4 7 rfl (cg' Try.func10 (fun W_ hS_ => Hc11.out W_)) ?_
 try simp only [Act.put, zq]
 refine wpAnyG_def (i := 8) (j := 9) gB4 (by kernel_rfl) (by kernel_rfl) (by kernel_rfl) rfl rfl rfl (allocG (by rfl) rfl _ alloc24) (lz4 L_l2.out) (fun _ => StoresG.mk (cs := (natsV .u64 l2)) (by rfl) 24 _ _ rfl rfl rfl (i24 L_l2.out) n1') ?_
 intro w146 G147 hgw146 hz_ hn_
 try simp only [Act.put, zq]
 have NE148 := Hd (Nat.ne_of_lt (Nat.lt_of_lt_of_le C137.out.drew.lt hz_))
 have NE149 := Hd (Nat.ne_of_lt (Nat.lt_of_lt_of_le C138.out.drew.lt hz_))
 have NE150 := Hd (Nat.ne_of_lt (Nat.lt_of_lt_of_le C139.out.drew.lt hz_))
 have NE151 := Hd (Nat.ne_of_lt (Nat.lt_of_lt_of_le C140.out.drew.lt hz_))
 have NE152 := Hd (Nat.ne_of_lt (Nat.lt_of_lt_of_le C141.out.drew.lt hz_))
 have NE153 := Hd (Nat.ne_of_lt (Nat.lt_of_lt_of_le C142.out.drew.lt hz_))
 have NE154 := Hd (Nat.ne_of_lt (Nat.lt_of_lt_of_le (bin_lt C143.out.drew) hz_))
 have NE155 := Hd (Nat.ne_of_lt (Nat.lt_of_lt_of_le C144.out.drew.lt hz_))
 have NE156 := Hd (Nat.ne_of_lt (Nat.lt_of_lt_of_le D134.out.drew.lt hz_))
 have GE157 := Hd (Nat.le_trans hbel145.drew.size hz_)
 have E158 := Hd (C137.out.drew.gr hgw146)
 have E159 := Hd (C138.out.drew.gr hgw146)
 have E160 := Hd (C139.out.drew.gr hgw146)
 have E161 := Hd (C140.out.drew.gr hgw146)
 have E162 := Hd (C141.out.drew.gr hgw146)
 have E163 := Hd (C142.out.drew.gr hgw146)
 have E164 := Hd (C143.out.drew.gr hgw146)
 have E165 := Hd (C144.out.drew.gr hgw146)
 have E166 := Hd (D134.out.drew.gr hgw146)
 have hbel167 := hbel145.drew.trans (Below.mono hgw146 hbel145.drew.size)
 have D168 := Hd hn_
 clear C137 C138 C139 C140 C141 C142 C143 C144 D134 hbel145 hn_ hz_ hgw146
 as_aux_lemma =>
 go_wp2_with fail
 as_aux_lemma =>
 refine wp_region_G (fun w_ => Blk w_ G147 24 (natsV .u64 l2) ∧ Blk w_ G28 24 (natsV .u64 lk)) 4 (by kernel_rfl) ⟨D168.out.drew, E161.out.drew⟩ ?_
 refine tk gS2 0 rfl (lg' (fun _ hS_ => blk_all (hS_.1)) Try.underlying24 (i24 L_l2.out)) ?_
 try simp only [Act.put, zq]
 refine tk gS2 1 rfl (lg' (fun _ hS_ => blk_all (hS_.2)) Try.underlying24 (i24 L_lk.out)) ?_
 try simp only [Act.put, zq]
 refine tk gS2 2 rfl (cg' Try.func13 (fun W_ _ => Hc12.out W_)) ?_
 try simp only [Act.put, zq]
 refine tk gS2 3 rfl (cg' Try.func12 (fun W_ _ => Hc13.out W_)) ?_
 try simp only [Act.put, zq]
 refine wpAnyG_set (i := 4) (by kernel_rfl) (by kernel_rfl) rfl rfl D168.out.drew (lenEq (nl' L_l2.out) (nl' L_ls.out)) (StoresG.mk (cs := (natsV .u64 ls)) (by rfl) 24 _ _ rfl rfl rfl (i24 L_ls.out) n1') ?_
 intro w169 hgw169 hn_
 try simp only [Act.put, zq]
 have E170 := Hd (E158.out.drew.grown hgw169 (fun e => NE148.out (Option.some.inj e)))
 have E171 := Hd (E159.out.drew.grown hgw169 (fun e => NE149.out (Option.some.inj e)))
 have E172 := Hd (E160.out.drew.grown hgw169 (fun e => NE150.out (Option.some.inj e)))
 have E173 := Hd (E161.out.drew.grown hgw169 (fun e => NE151.out (Option.some.inj e)))
 have E174 := Hd (E162.out.drew.grown hgw169 (fun e => NE152.out (Option.some.inj e)))
 have E175 := Hd (E163.out.drew.grown hgw169 (fun e => NE153.out (Option.some.inj e)))
 clear E158 E159 E160 E161 E162 E163
 have E176 := Hd (E164.out.drew.grown hgw169 (fun b_ hb_ _ => by cases hb_; exact NE154.out))
 have E177 := Hd (E165.out.drew.grown hgw169 (fun e => NE155.out (Option.some.inj e)))
 have E178 := Hd (E166.out.drew.grown hgw169 (fun e => NE156.out (Option.some.inj e)))
 have D179 := Hd hn_
 have hbel180 := belStore hbel167.drew hgw169 (GE157.out)
 clear E164 E165 E166 hn_ D168 hgw169
 as_aux_lemma =>
 have qc := Q3.out
 have qd := Q4.out
 go_wp2_with (first | (refine lm' (blk_all (E178.out)) Try.underlying24 (i24 L_lr.out) ?_) | (refine lm' (blk_all (E174.out)) Try.underlying24 (i24 z4l) ?_) | (refine ldwM 24 (.tmp 15) rfl G147 0 rfl (natsV .u64 ls) _ (blk_all (D179.out)) Try.underlying24 rfl (i24 L_ls.out) 3 false rfl 89 rfl rfl ?_) | (refine ldwM 24 (.tmp 7) rfl G35 0 rfl (natsV .u64 (zeros 4)) _ (blk_all (E174.out)) Try.underlying24 rfl (i24 z4l) 3 false rfl 89 rfl rfl ?_))
 go_ret
 exact ⟨rfl, hbel180⟩
theorem wsigned_ok {lD lK ln ld lk gx gy qx qy px py lr lz l1 l2 li ls lm : List Nat} {A : Option Addr} {n c : Nat} {l : List Nat} {ip : Bool} {E L L2 : List Nat} (w : World) (hlD : lD.length = 4) (hlK : lK.length = 4) (hln : ln.length = 4) (hld : ld.length = 4) (hlk : lk.length = 4) (hgx : gx.length = 4) (hgy : gy.length = 4) (hqx : qx.length = 4) (hqy : qy.length = 4) (hpx : px.length = 4) (hpy : py.length = 4) (hlr : lr.length = 4) (hlz : lz.length = 4) (hl1 : l1.length = 4) (hl2 : l2.length = 4) (hli : li.length = 4) (hls : ls.length = 4) (hlm : lm.length = 4)
   (z1 : ¬ ld = zeros 4)
   (z2 : ¬ lk = zeros 4)
   (z3 : ¬ lr = zeros 4)
   (z4 : ¬ ls = zeros 4)
   (hB : BIn w A n c l)
   (hE : ∀ z ∈ E, z < 256)
   (hen : ∀ w, Calls Try.prog 9 #[.agg (pv qx qy false).toArray] w (ListOwn 65 E w))
   (hL : ∀ z ∈ L, z < 256)
   (hL2 : ∀ z ∈ L2, z < 256)
   (hj : ∀ w, Calls Try.prog 14 #[.agg (natsV .u64 lr).toArray, .agg (natsV .u64 ls).toArray] w (OwnL 64 L w))
   (hj2 : ∀ w, Calls Try.prog 14 #[.agg (natsV .u64 lr).toArray, .agg (natsV .u64 lm).toArray] w (OwnL 64 L2 w))
   (hv1 : ∀ S1 k1 S3 k3 W, BIn W S1 65 k1 E → BIn W A n c l → BIn W S3 64 k3 L → Calls Try.prog 16 #[.slice S1 65 k1, .slice A n c, .slice S3 64 k3] W fun e w' => e = .returned (.int .i64 0) ∧ Below W.heap.size W w')
   (hv2 : ∀ S1 k1 S3 k3 W, BIn W S1 65 k1 E → BIn W A n c l → BIn W S3 64 k3 L2 → Calls Try.prog 16 #[.slice S1 65 k1, .slice A n c, .slice S3 64 k3] W fun e w' => e = .returned (.int .i64 0) ∧ Below W.heap.size W w')
   (hv3 : ∀ S1 k1 S3 k3 W, BIn W S1 65 k1 E → BIn W A n c l → BIn W S3 65 k3 (L ++ [0]) → Calls Try.prog 16 #[.slice S1 65 k1, .slice A n c, .slice S3 65 k3] W fun e w' => e = .returned (.int .i64 72) ∧ Below W.heap.size W w')
   (c1 : Ans 4 #[] (.bool true))
   (c2 : Ans 5 #[] (.agg (natsV .u64 ln).toArray))
   (c3 : Ans 6 #[.agg (natsV .u64 lD).toArray, .bool false, .agg (natsV .u64 ln).toArray] (.agg (natsV .u64 ld).toArray))
   (c4 : Ans 6 #[.agg (natsV .u64 lK).toArray, .bool false, .agg (natsV .u64 ln).toArray] (.agg (natsV .u64 lk).toArray))
   (c5 : Ans 8 #[] (.agg (pv gx gy false).toArray))
   (c6 : Ans 7 #[.agg (natsV .u64 ld).toArray, .agg (pv gx gy false).toArray] (.tuple #[.agg (pv qx qy false).toArray, .int .i64 0]))
   (c7 : Ans 7 #[.agg (natsV .u64 lk).toArray, .agg (pv gx gy false).toArray] (.tuple #[.agg (pv px py ip).toArray, .int .i64 0]))
   (c8 : Ans 6 #[.agg (natsV .u64 px).toArray, .bool false, .agg (natsV .u64 ln).toArray] (.agg (natsV .u64 lr).toArray))
   (c9 : ∀ W, Below w.heap.size w W → Calls Try.prog 11 #[.slice A n c] W fun e w' => e = .returned (.agg (natsV .u64 lz).toArray) ∧ Below W.heap.size W w')
   (c10 : Ans 12 #[.agg (natsV .u64 lr).toArray, .agg (natsV .u64 ld).toArray] (.agg (natsV .u64 l1).toArray))
   (c11 : Ans 10 #[.agg (natsV .u64 lz).toArray, .agg (natsV .u64 l1).toArray, .agg (natsV .u64 ln).toArray] (.agg (natsV .u64 l2).toArray))
   (c12 : Ans 13 #[.agg (natsV .u64 lk).toArray] (.agg (natsV .u64 li).toArray))
   (c13 : Ans 12 #[.agg (natsV .u64 l2).toArray, .agg (natsV .u64 li).toArray] (.agg (natsV .u64 ls).toArray))
   (c14 : Ans 15 #[.agg (natsV .u64 (zeros 4)).toArray, .agg (natsV .u64 ls).toArray, .agg (natsV .u64 ln).toArray] (.agg (natsV .u64 lm).toArray)) :
   Calls Try.prog 3 #[.agg (sgv lD lK (.slice A n c)).toArray] w fun e w' => e = .returned (.bool true) ∧ Below w.heap.size w w' := by
 have L_lD := Hd hlD
 have L_lK := Hd hlK
 have L_ln := Hd hln
 have L_ld := Hd hld
 have L_lk := Hd hlk
 have L_gx := Hd hgx
 have L_gy := Hd hgy
 have L_qx := Hd hqx
 have L_qy := Hd hqy
 have L_px := Hd hpx
 have L_py := Hd hpy
 have L_lr := Hd hlr
 have L_lz := Hd hlz
 have L_l1 := Hd hl1
 have L_l2 := Hd hl2
 have L_li := Hd hli
 have L_ls := Hd hls
 have L_lm := Hd hlm
 have Hc1 := Hd c1
 have Hc2 := Hd c2
 have Hc3 := Hd c3
 have Hc4 := Hd c4
 have Hc5 := Hd c5
 have Hc6 := Hd c6
 have Hc7 := Hd c7
 have Hc8 := Hd c8
 have Hc9 := Hd c9
 have Hc10 := Hd c10
 have Hc11 := Hd c11
 have Hc12 := Hd c12
 have Hc13 := Hd c13
 have Hc14 := Hd c14
 have Q1 := Hd (fun w => (eql24 ld (zeros 4) L_ld.out rfl w).trans (by rw [decide_eq_false z1]))
 have Q2 := Hd (fun w => (eql24 lk (zeros 4) L_lk.out rfl w).trans (by rw [decide_eq_false z2]))
 have Q3 := Hd (fun w => (eql24 lr (zeros 4) L_lr.out rfl w).trans (by rw [decide_eq_false z3]))
 have Q4 := Hd (fun w => (eql24 ls (zeros 4) L_ls.out rfl w).trans (by rw [decide_eq_false z4]))
 have HBI := Hd hB
 have HE := Hd hE
 have HEN := Hd hen
 have HL := Hd hL
 have HL2 := Hd hL2
 have HJ := Hd hj
 have HJ2 := Hd hj2
 have HV1 := Hd hv1
 have HV2 := Hd hv2
 have HV3 := Hd hv3
 have B0_ := Hd (Blk.new w  27 (sgv lD lK (.slice A n c)))
 have bel_ := ((Below.refl w.heap.size w).alloc (Nat.le_refl _) (.cells (sgv lD lK (.slice A n c)).toArray 27))
 clear hlD hlK hln hld hlk hgx hgy hqx hqy hpx hpy hlr hlz hl1 hl2 hli hls hlm c1 c2 c3 c4 c5 c6 c7 c8 c9 c10 c11 c12 c13 c14 z1 z2 z3 z4 hB hE hen hL hL2 hj hj2 hv1 hv2 hv3
 go_enter Try.func3, Try.ntmps3
 go_wp2_with fail
 refine (Hc1.out _).mono ?_
 rintro e w1 ⟨rfl, hbw1⟩
 have C2 := Hd (B0_.out.gr hbw1)
 have hbel3 := bel_.trans (Below.mono hbw1 bel_.size)
 clear B0_ bel_ hbw1
 go_wp2_with fail
 refine (Hc2.out _).mono ?_
 rintro e w4 ⟨rfl, hbw4⟩
 have C5 := Hd (C2.out.gr hbw4)
 have hbel6 := hbel3.trans (Below.mono hbw4 hbel3.size)
 clear C2 hbel3 hbw4
 go_wp2_with (first | (refine stM rfl 24 (.tmp 4) (.tmp 20) rfl w4 rfl (natsV .u64 ln) rfl 24 (natsV .u64 (zeros 4)) (i24 L_ln.out) (lz4 L_ln.out) n1' ?_; intro w7 hgw7 hnw7; have C10 := Hd (C5.out.gr hgw7); clear C5; have hbel11 := hbel6.trans (Below.mono hgw7 hbel6.size); clear hbel6; have D9 := Hd hnw7; clear hnw7 hgw7; generalize w4.heap.size = G8 at *) | (refine wpList_load_mid rfl 24 (.tmp 21) rfl w.heap.size 0 rfl (natsV .u64 lD) _ (sg_x (C10.out)) Try.underlying24 rfl (i24 L_lD.out) ?_) | (refine lm' (blk_all (D9.out)) Try.underlying24 (i24 L_ln.out) ?_))
 refine (Hc3.out _).mono ?_
 rintro e w12 ⟨rfl, hbw12⟩
 have C13 := Hd (C10.out.gr hbw12)
 have C14 := Hd (D9.out.gr hbw12)
 have hbel15 := hbel11.trans (Below.mono hbw12 hbel11.size)
 clear C10 D9 hbel11 hbw12
 go_wp2_with (first | (refine stM rfl 24 (.tmp 5) (.tmp 24) rfl w12 rfl (natsV .u64 ld) rfl 24 (natsV .u64 (zeros 4)) (i24 L_ld.out) (lz4 L_ld.out) n1' ?_; intro w16 hgw16 hnw16; have C19 := Hd (C13.out.gr hgw16); clear C13; have C20 := Hd (C14.out.gr hgw16); clear C14; have hbel21 := hbel15.trans (Below.mono hgw16 hbel15.size); clear hbel15; have D18 := Hd hnw16; clear hnw16 hgw16; generalize w12.heap.size = G17 at *) | (refine wpList_load_mid rfl 24 (.tmp 25) rfl w.heap.size 4 rfl (natsV .u64 lK) _ (sg_y (C19.out) L_lD.out) Try.underlying24 rfl (i24 L_lK.out) ?_) | (refine lm' (blk_all (C20.out)) Try.underlying24 (i24 L_ln.out) ?_))
 refine (Hc4.out _).mono ?_
 rintro e w22 ⟨rfl, hbw22⟩
 have C23 := Hd (C19.out.gr hbw22)
 have C24 := Hd (C20.out.gr hbw22)
 have C25 := Hd (D18.out.gr hbw22)
 have hbel26 := hbel21.trans (Below.mono hbw22 hbel21.size)
 have qa := Q1.out
 have qb := Q2.out
 clear C19 C20 D18 hbel21 hbw22
 go_wp2_with (first | (refine stM rfl 24 (.tmp 6) (.tmp 28) rfl w22 rfl (natsV .u64 lk) rfl 24 (natsV .u64 (zeros 4)) (i24 L_lk.out) (lz4 L_lk.out) n1' ?_; intro w27 hgw27 hnw27; have C30 := Hd (C23.out.gr hgw27); clear C23; have C31 := Hd (C24.out.gr hgw27); clear C24; have C32 := Hd (C25.out.gr hgw27); clear C25; have hbel33 := hbel26.trans (Below.mono hgw27 hbel26.size); clear hbel26; have D29 := Hd hnw27; clear hnw27 hgw27; generalize w22.heap.size = G28 at *) | (refine stM rfl 24 (.tmp 7) (.tmp 29) rfl w27 rfl (natsV .u64 (zeros 4)) rfl 24 (natsV .u64 (zeros 4)) (i24 z4l) (lz4 z4l) n1' ?_; intro w34 hgw34 hnw34; have C37 := Hd (C30.out.gr hgw34); clear C30; have C38 := Hd (C31.out.gr hgw34); clear C31; have C39 := Hd (C32.out.gr hgw34); clear C32; have C40 := Hd (D29.out.gr hgw34); clear D29; have hbel41 := hbel33.trans (Below.mono hgw34 hbel33.size); clear hbel33; have D36 := Hd hnw34; clear hnw34 hgw34; generalize w27.heap.size = G35 at *) | (refine lm' (blk_all (C39.out)) Try.underlying24 (i24 L_ld.out) ?_) | (refine lm' (blk_all (D36.out)) Try.underlying24 (i24 z4l) ?_) | (refine ldwM 24 (.tmp 6) rfl G28 0 rfl (natsV .u64 lk) _ (blk_all (C40.out)) Try.underlying24 rfl (i24 L_lk.out) 3 false rfl 33 rfl rfl ?_) | (refine ldwM 24 (.tmp 7) rfl G35 0 rfl (natsV .u64 (zeros 4)) _ (blk_all (D36.out)) Try.underlying24 rfl (i24 z4l) 3 false rfl 33 rfl rfl ?_))
 as_aux_lemma =>
 refine wp_region_G (fun w_ => Blk w_ G17 24 (natsV .u64 ld)) 9 (by kernel_rfl) C39.out.drew ?_
 refine tk gS1 0 rfl (lg' (fun _ hS_ => blk_all (hS_)) Try.underlying24 (i24 L_ld.out)) ?_
 try simp only [Act.put, zq]
 refine tk gS1 1 rfl (cg' Try.func8 (fun W_ _ => Hc5.out W_)) ?_
 try simp only [Act.put, zq]
 refine tk gS1 2 rfl (cg' Try.func7 (fun W_ _ => Hc6.out W_)) ?_
 try simp only [Act.put, zq]
 refine tkp gS1 3 rfl ?_
 try simp only [Act.put, zq]
 refine tkp gS1 4 rfl ?_
 try simp only [Act.put, zq]
 refine tkp gS1 5 rfl ?_
 try simp only [Act.put, zq]
 refine wpAnyG_alloc (i := 6) gS1 (by kernel_rfl) rfl (allocG (by rfl) rfl _ alloc43) ?_
 intro w42 G43 hgw42 hz_ hn_
 try simp only [Act.put, zq]
 have NG44 := Hd (Nat.ne_of_lt (Nat.lt_of_lt_of_le C39.out.drew.lt hz_))
 have NE45 := Hd (Nat.ne_of_lt (Nat.lt_of_lt_of_le C37.out.drew.lt hz_))
 have NE46 := Hd (Nat.ne_of_lt (Nat.lt_of_lt_of_le C38.out.drew.lt hz_))
 have NE47 := Hd (Nat.ne_of_lt (Nat.lt_of_lt_of_le C39.out.drew.lt hz_))
 have NE48 := Hd (Nat.ne_of_lt (Nat.lt_of_lt_of_le C40.out.drew.lt hz_))
 have NE49 := Hd (Nat.ne_of_lt (Nat.lt_of_lt_of_le D36.out.drew.lt hz_))
 have GE50 := Hd (Nat.le_trans hbel41.drew.size hz_)
 have E51 := Hd (C37.out.drew.gr hgw42)
 have E52 := Hd (C38.out.drew.gr hgw42)
 have E53 := Hd (C39.out.drew.gr hgw42)
 have E54 := Hd (C40.out.drew.gr hgw42)
 have E55 := Hd (D36.out.drew.gr hgw42)
 have hbel56 := hbel41.drew.trans (Below.mono hgw42 hbel41.drew.size)
 have D57 := Hd hn_
 clear C37 C38 C39 C40 D36 hbel41 hn_ hz_ hgw42
 refine wpAnyG_store (i := 7) (by kernel_rfl) rfl D57.out (lenEq pz9 (pv_len L_qx.out L_qy.out)) (StoresG.mk (cs := (pv qx qy false)) (by rfl) 32 _ _ rfl rfl rfl (i43 L_qx.out L_qy.out) p1_) (.inr (fun _ hS_ => hS_.row _ (NG44.out))) ?_
 intro w58 hgw58 hn_
 try simp only [Act.put, zq]
 have E59 := Hd (E51.out.grown hgw58 (fun e => NE45.out (Option.some.inj e)))
 have E60 := Hd (E52.out.grown hgw58 (fun e => NE46.out (Option.some.inj e)))
 have E61 := Hd (E53.out.grown hgw58 (fun e => NE47.out (Option.some.inj e)))
 have E62 := Hd (E54.out.grown hgw58 (fun e => NE48.out (Option.some.inj e)))
 have E63 := Hd (E55.out.grown hgw58 (fun e => NE49.out (Option.some.inj e)))
 have D64 := Hd hn_
 have hbel65 := belStore hbel56 hgw58 (GE50.out)
 clear E51 E52 E53 E54 E55 hn_ D57 hgw58
 refine tkp gS1 8 rfl ?_
 try simp only [Act.put, zq]
 refine wpAnyG_done (by kernel_rfl) ?_ _
 intro w66 hgw66
 try simp only [Act.put, zq]
 have C67 := Hd (E59.out.gr hgw66)
 have C68 := Hd (E60.out.gr hgw66)
 have C69 := Hd (E61.out.gr hgw66)
 have C70 := Hd (E62.out.gr hgw66)
 have C71 := Hd (E63.out.gr hgw66)
 have C72 := Hd (D64.out.gr hgw66)
 have hbel73 := hbel65.trans (Below.mono hgw66 hbel65.size)
 clear E59 E60 E61 E62 E63 D64 hbel65 hgw66
 as_aux_lemma =>
 go_wp2_with (first | (refine lm' (blk_all (C72.out)) Try.underlying32 (i43 L_qx.out L_qy.out) ?_))
 refine (HEN.out _).mono ?_
 rintro e w74 ⟨Ga, ca, rfl, ow74, hbw74⟩
 have C75 := Hd (C67.out.gr hbw74)
 have C76 := Hd (C68.out.gr hbw74)
 have C77 := Hd (C69.out.gr hbw74)
 have C78 := Hd (C70.out.gr hbw74)
 have C79 := Hd (C71.out.gr hbw74)
 have C80 := Hd (C72.out.gr hbw74)
 have hbel81 := hbel73.trans (Below.mono hbw74 hbel73.size)
 have HBa := Hd (own_bin ow74 HE.out (by decide))
 clear C67 C68 C69 C70 C71 C72 hbel73 ow74 hbw74
 go_wp2_with fail
 as_aux_lemma =>
 refine wp_region_G (fun w_ => Blk w_ G28 24 (natsV .u64 lk)) 9 (by kernel_rfl) C78.out.drew ?_
 refine tk gS1 0 rfl (lg' (fun _ hS_ => blk_all (hS_)) Try.underlying24 (i24 L_lk.out)) ?_
 try simp only [Act.put, zq]
 refine tk gS1 1 rfl (cg' Try.func8 (fun W_ _ => Hc5.out W_)) ?_
 try simp only [Act.put, zq]
 refine tk gS1 2 rfl (cg' Try.func7 (fun W_ _ => Hc7.out W_)) ?_
 try simp only [Act.put, zq]
 refine tkp gS1 3 rfl ?_
 try simp only [Act.put, zq]
 refine tkp gS1 4 rfl ?_
 try simp only [Act.put, zq]
 refine tkp gS1 5 rfl ?_
 try simp only [Act.put, zq]
 refine wpAnyG_alloc (i := 6) gS1 (by kernel_rfl) rfl (allocG (by rfl) rfl _ alloc43) ?_
 intro w82 G83 hgw82 hz_ hn_
 try simp only [Act.put, zq]
 have NG84 := Hd (Nat.ne_of_lt (Nat.lt_of_lt_of_le C78.out.drew.lt hz_))
 have NE85 := Hd (Nat.ne_of_lt (Nat.lt_of_lt_of_le C75.out.drew.lt hz_))
 have NE86 := Hd (Nat.ne_of_lt (Nat.lt_of_lt_of_le C76.out.drew.lt hz_))
 have NE87 := Hd (Nat.ne_of_lt (Nat.lt_of_lt_of_le C77.out.drew.lt hz_))
 have NE88 := Hd (Nat.ne_of_lt (Nat.lt_of_lt_of_le C78.out.drew.lt hz_))
 have NE89 := Hd (Nat.ne_of_lt (Nat.lt_of_lt_of_le C79.out.drew.lt hz_))
 have NE90 := Hd (Nat.ne_of_lt (Nat.lt_of_lt_of_le C80.out.drew.lt hz_))
 have NE91 := Hd (Nat.ne_of_lt (Nat.lt_of_lt_of_le (bin_lt HBa.out.drew) hz_))
 have GE92 := Hd (Nat.le_trans hbel81.drew.size hz_)
 have E93 := Hd (C75.out.drew.gr hgw82)
 have E94 := Hd (C76.out.drew.gr hgw82)
 have E95 := Hd (C77.out.drew.gr hgw82)
 have E96 := Hd (C78.out.drew.gr hgw82)
 have E97 := Hd (C79.out.drew.gr hgw82)
 have E98 := Hd (C80.out.drew.gr hgw82)
 have E99 := Hd (HBa.out.drew.gr hgw82)
 have hbel100 := hbel81.drew.trans (Below.mono hgw82 hbel81.drew.size)
 have D101 := Hd hn_
 clear C75 C76 C77 C78 C79 C80 HBa hbel81 hn_ hz_ hgw82
 refine wpAnyG_store (i := 7) (by kernel_rfl) rfl D101.out (lenEq pz9 (pv_len L_px.out L_py.out)) (StoresG.mk (cs := (pv px py ip)) (by rfl) 32 _ _ rfl rfl rfl (i43 L_px.out L_py.out) p1_) (.inr (fun _ hS_ => hS_.row _ (NG84.out))) ?_
 intro w102 hgw102 hn_
 try simp only [Act.put, zq]
 have E103 := Hd (E93.out.grown hgw102 (fun e => NE85.out (Option.some.inj e)))
 have E104 := Hd (E94.out.grown hgw102 (fun e => NE86.out (Option.some.inj e)))
 have E105 := Hd (E95.out.grown hgw102 (fun e => NE87.out (Option.some.inj e)))
 have E106 := Hd (E96.out.grown hgw102 (fun e => NE88.out (Option.some.inj e)))
 have E107 := Hd (E97.out.grown hgw102 (fun e => NE89.out (Option.some.inj e)))
 have E108 := Hd (E98.out.grown hgw102 (fun e => NE90.out (Option.some.inj e)))
 clear E93 E94 E95 E96 E97 E98
 have E109 := Hd (E99.out.grown hgw102 (fun b_ hb_ _ => by cases hb_; exact NE91.out))
 have D110 := Hd hn_
 have hbel111 := belStore hbel100 hgw102 (GE92.out)
 clear E99 hn_ D101 hgw102
 refine tkp gS1 8 rfl ?_
 try simp only [Act.put, zq]
 refine wpAnyG_done (by kernel_rfl) ?_ _
 intro w112 hgw112
 try simp only [Act.put, zq]
 have C113 := Hd (E103.out.gr hgw112)
 have C114 := Hd (E104.out.gr hgw112)
 have C115 := Hd (E105.out.gr hgw112)
 have C116 := Hd (E106.out.gr hgw112)
 have C117 := Hd (E107.out.gr hgw112)
 have C118 := Hd (E108.out.gr hgw112)
 have C119 := Hd (E109.out.gr hgw112)
 have C120 := Hd (D110.out.gr hgw112)
 have hbel121 := hbel111.trans (Below.mono hgw112 hbel111.size)
 clear E103 E104 E105 E106 E107 E108 E109 D110 hbel111 hgw112
 as_aux_lemma =>
 go_wp2_with (first | (refine lm' (pv_x (C120.out)) Try.underlying24 (i24 L_px.out) ?_) | (refine lm' (blk_all (C114.out)) Try.underlying24 (i24 L_ln.out) ?_))
 refine (Hc8.out _).mono ?_
 rintro e w122 ⟨rfl, hbw122⟩
 have C123 := Hd (C113.out.gr hbw122)
 have C124 := Hd (C114.out.gr hbw122)
 have C125 := Hd (C115.out.gr hbw122)
 have C126 := Hd (C116.out.gr hbw122)
 have C127 := Hd (C117.out.gr hbw122)
 have C128 := Hd (C118.out.gr hbw122)
 have C129 := Hd (C119.out.gr hbw122)
 have C130 := Hd (C120.out.gr hbw122)
 have hbel131 := hbel121.trans (Below.mono hbw122 hbel121.size)
 clear C113 C114 C115 C116 C117 C118 C119 C120 hbel121 hbw122
 go_wp2_with (first | (refine stM rfl 24 (.tmp 14) (.tmp 73) rfl w122 rfl (natsV .u64 lr) rfl 24 (natsV .u64 (zeros 4)) (i24 L_lr.out) (lz4 L_lr.out) n1' ?_; intro w132 hgw132 hnw132; have NE135 := Hd (Nat.ne_of_lt (C128.out.lt)); have NE136 := Hd (Nat.ne_of_lt (C130.out.lt)); have C137 := Hd (C123.out.gr hgw132); clear C123; have C138 := Hd (C124.out.gr hgw132); clear C124; have C139 := Hd (C125.out.gr hgw132); clear C125; have C140 := Hd (C126.out.gr hgw132); clear C126; have C141 := Hd (C127.out.gr hgw132); clear C127; have C142 := Hd (C128.out.gr hgw132); clear C128; have C143 := Hd (C129.out.gr hgw132); clear C129; have C144 := Hd (C130.out.gr hgw132); clear C130; have hbel145 := hbel131.trans (Below.mono hgw132 hbel131.size); clear hbel131; have D134 := Hd hnw132; clear hnw132 hgw132; generalize w122.heap.size = G133 at *))
 as_aux_lemma =>
 refine wp_region_G (fun w_ => Blk w_ w.heap.size 27 (sgv lD lK (.slice A n c)) ∧ Blk w_ G133 24 (natsV .u64 lr) ∧ Blk w_ G17 24 (natsV .u64 ld) ∧ Blk w_ G8 24 (natsV .u64 ln) ∧ Below w.heap.size w w_) 9 (by kernel_rfl) ⟨C137.out.drew, D134.out.drew, C139.out.drew, C138.out.drew, hbel145.drew⟩ ?_
 refine tkp gB4 0 rfl ?_
 try simp only [Act.put, zq]
 refine tk gB4 1 rfl (worldG (by rfl) (by intro w_ hS_; have cw := sg_s (hS_.1) L_lD.out L_lK.out; go_simp; first | done | with_reducible rfl)) ?_
 try simp only [Act.put, zq]
 refine tk gB4 2 rfl (cg' Try.func11 (fun W_ hS_ => Hc9.out _ hS_.2.2.2.2)) ?_
 try simp only [Act.put, zq]
 refine tk gB4 3 rfl (lg' (fun _ hS_ => blk_all (hS_.2.1)) Try.underlying24 (i24 L_lr.out)) ?_
 try simp only [Act.put, zq]
 refine tk gB4 4 rfl (lg' (fun _ hS_ => blk_all (hS_.2.2.1)) Try.underlying24 (i24 L_ld.out)) ?_
 try simp only [Act.put, zq]
 refine tk gB4 5 rfl (cg' Try.func12 (fun W_ hS_ => Hc10.out W_)) ?_
 try simp only [Act.put, zq]
 refine tk gB4 6 rfl (lg' (fun _ hS_ => blk_all (hS_.2.2.2.1)) Try.underlying24 (i24 L_ln.out)) ?_
 try simp only [Act.put, zq]
 refine tk gB4 7 rfl (cg' Try.func10 (fun W_ hS_ => Hc11.out W_)) ?_
 try simp only [Act.put, zq]
 refine wpAnyG_def (i := 8) (j := 9) gB4 (by kernel_rfl) (by kernel_rfl) (by kernel_rfl) rfl rfl rfl (allocG (by rfl) rfl _ alloc24) (lz4 L_l2.out) (fun _ => StoresG.mk (cs := (natsV .u64 l2)) (by rfl) 24 _ _ rfl rfl rfl (i24 L_l2.out) n1') ?_
 intro w146 G147 hgw146 hz_ hn_
 try simp only [Act.put, zq]
 have NE148 := Hd (Nat.ne_of_lt (Nat.lt_of_lt_of_le C137.out.drew.lt hz_))
 have NE149 := Hd (Nat.ne_of_lt (Nat.lt_of_lt_of_le C138.out.drew.lt hz_))
 have NE150 := Hd (Nat.ne_of_lt (Nat.lt_of_lt_of_le C139.out.drew.lt hz_))
 have NE151 := Hd (Nat.ne_of_lt (Nat.lt_of_lt_of_le C140.out.drew.lt hz_))
 have NE152 := Hd (Nat.ne_of_lt (Nat.lt_of_lt_of_le C141.out.drew.lt hz_))
 have NE153 := Hd (Nat.ne_of_lt (Nat.lt_of_lt_of_le C142.out.drew.lt hz_))
 have NE154 := Hd (Nat.ne_of_lt (Nat.lt_of_lt_of_le (bin_lt C143.out.drew) hz_))
 have NE155 := Hd (Nat.ne_of_lt (Nat.lt_of_lt_of_le C144.out.drew.lt hz_))
 have NE156 := Hd (Nat.ne_of_lt (Nat.lt_of_lt_of_le D134.out.drew.lt hz_))
 have GE157 := Hd (Nat.le_trans hbel145.drew.size hz_)
 have E158 := Hd (C137.out.drew.gr hgw146)
 have E159 := Hd (C138.out.drew.gr hgw146)
 have E160 := Hd (C139.out.drew.gr hgw146)
 have E161 := Hd (C140.out.drew.gr hgw146)
 have E162 := Hd (C141.out.drew.gr hgw146)
 have E163 := Hd (C142.out.drew.gr hgw146)
 have E164 := Hd (C143.out.drew.gr hgw146)
 have E165 := Hd (C144.out.drew.gr hgw146)
 have E166 := Hd (D134.out.drew.gr hgw146)
 have hbel167 := hbel145.drew.trans (Below.mono hgw146 hbel145.drew.size)
 have D168 := Hd hn_
 clear C137 C138 C139 C140 C141 C142 C143 C144 D134 hbel145 hn_ hz_ hgw146
 as_aux_lemma =>
 go_wp2_with fail
 as_aux_lemma =>
 refine wp_region_G (fun w_ => Blk w_ G147 24 (natsV .u64 l2) ∧ Blk w_ G28 24 (natsV .u64 lk)) 4 (by kernel_rfl) ⟨D168.out.drew, E161.out.drew⟩ ?_
 refine tk gS2 0 rfl (lg' (fun _ hS_ => blk_all (hS_.1)) Try.underlying24 (i24 L_l2.out)) ?_
 try simp only [Act.put, zq]
 refine tk gS2 1 rfl (lg' (fun _ hS_ => blk_all (hS_.2)) Try.underlying24 (i24 L_lk.out)) ?_
 try simp only [Act.put, zq]
 refine tk gS2 2 rfl (cg' Try.func13 (fun W_ _ => Hc12.out W_)) ?_
 try simp only [Act.put, zq]
 refine tk gS2 3 rfl (cg' Try.func12 (fun W_ _ => Hc13.out W_)) ?_
 try simp only [Act.put, zq]
 refine wpAnyG_set (i := 4) (by kernel_rfl) (by kernel_rfl) rfl rfl D168.out.drew (lenEq (nl' L_l2.out) (nl' L_ls.out)) (StoresG.mk (cs := (natsV .u64 ls)) (by rfl) 24 _ _ rfl rfl rfl (i24 L_ls.out) n1') ?_
 intro w169 hgw169 hn_
 try simp only [Act.put, zq]
 have E170 := Hd (E158.out.drew.grown hgw169 (fun e => NE148.out (Option.some.inj e)))
 have E171 := Hd (E159.out.drew.grown hgw169 (fun e => NE149.out (Option.some.inj e)))
 have E172 := Hd (E160.out.drew.grown hgw169 (fun e => NE150.out (Option.some.inj e)))
 have E173 := Hd (E161.out.drew.grown hgw169 (fun e => NE151.out (Option.some.inj e)))
 have E174 := Hd (E162.out.drew.grown hgw169 (fun e => NE152.out (Option.some.inj e)))
 have E175 := Hd (E163.out.drew.grown hgw169 (fun e => NE153.out (Option.some.inj e)))
 clear E158 E159 E160 E161 E162 E163
 have E176 := Hd (E164.out.drew.grown hgw169 (fun b_ hb_ _ => by cases hb_; exact NE154.out))
 have E177 := Hd (E165.out.drew.grown hgw169 (fun e => NE155.out (Option.some.inj e)))
 have E178 := Hd (E166.out.drew.grown hgw169 (fun e => NE156.out (Option.some.inj e)))
 have D179 := Hd hn_
 have hbel180 := belStore hbel167.drew hgw169 (GE157.out)
 clear E164 E165 E166 hn_ D168 hgw169
 as_aux_lemma =>
 have qc := Q3.out
 have qd := Q4.out
 go_wp2_with (first | (refine lm' (blk_all (E178.out)) Try.underlying24 (i24 L_lr.out) ?_) | (refine lm' (blk_all (E174.out)) Try.underlying24 (i24 z4l) ?_) | (refine ldwM 24 (.tmp 15) rfl G147 0 rfl (natsV .u64 ls) _ (blk_all (D179.out)) Try.underlying24 rfl (i24 L_ls.out) 3 false rfl 89 rfl rfl ?_) | (refine ldwM 24 (.tmp 7) rfl G35 0 rfl (natsV .u64 (zeros 4)) _ (blk_all (E174.out)) Try.underlying24 rfl (i24 z4l) 3 false rfl 89 rfl rfl ?_) | (refine lm' (blk_all (E178.out)) Try.underlying24 (i24 L_lr.out) ?_) | (refine lm' (blk_all (D179.out)) Try.underlying24 (i24 L_ls.out) ?_))
 refine (HJ.out _).mono ?_
 rintro e w181 ⟨Gs, cs, rfl, ow181, hbw181⟩
 have C182 := Hd (E170.out.gr hbw181)
 have C183 := Hd (E171.out.gr hbw181)
 have C184 := Hd (E172.out.gr hbw181)
 have C185 := Hd (E173.out.gr hbw181)
 have C186 := Hd (E174.out.gr hbw181)
 have C187 := Hd (E175.out.gr hbw181)
 have C188 := Hd (E176.out.gr hbw181)
 have C189 := Hd (E177.out.gr hbw181)
 have C190 := Hd (E178.out.gr hbw181)
 have C191 := Hd (D179.out.gr hbw181)
 have hbel192 := hbel180.trans (Below.mono hbw181 hbel180.size)
 have HBs := Hd (own_bin ow181 HL.out (by decide))
 clear E170 E171 E172 E173 E174 E175 E176 E177 E178 D179 hbel180 ow181 hbw181
 go_wp2_with fail
 as_aux_lemma =>
 refine wp_region_G (fun w_ => Blk w_ G133 24 (natsV .u64 lr) ∧ Blk w_ G35 24 (natsV .u64 (zeros 4)) ∧ Blk w_ G147 24 (natsV .u64 ls) ∧ Blk w_ G8 24 (natsV .u64 ln)) 7 (by kernel_rfl) ⟨C190.out.drew, C186.out.drew, C191.out.drew, C183.out.drew⟩ ?_
 refine tk gS4 0 rfl (lg' (fun _ hS_ => blk_all (hS_.1)) Try.underlying24 (i24 L_lr.out)) ?_
 try simp only [Act.put, zq]
 refine tk gS4 1 rfl (lg' (fun _ hS_ => blk_all (hS_.2.1)) Try.underlying24 (i24 z4l)) ?_
 try simp only [Act.put, zq]
 refine tk gS4 2 rfl (lg' (fun _ hS_ => blk_all (hS_.2.2.1)) Try.underlying24 (i24 L_ls.out)) ?_
 try simp only [Act.put, zq]
 refine tk gS4 3 rfl (lg' (fun _ hS_ => blk_all (hS_.2.2.2)) Try.underlying24 (i24 L_ln.out)) ?_
 try simp only [Act.put, zq]
 refine tk gS4 4 rfl (cg' Try.func15 (fun W_ _ => Hc14.out W_)) ?_
 try simp only [Act.put, zq]
 refine wpAnyG_callE (i := 5) gS4 (by kernel_rfl) rfl (by rfl) rfl Try.func14 (by kernel_rfl) (by kernel_rfl) (#[.agg (natsV .u64 lr).toArray, .agg (natsV .u64 lm).toArray]) (by simp [Act.eval]) (R := fun v w1 W => ∃ g c, v = .slice (some ⟨g, 0, none⟩) 64 c ∧ BIn W (some ⟨g, 0, none⟩) 64 c L2) (fun w1 _ => (HJ2.out w1).mono (fun e w' he => by obtain ⟨g, c, rfl, o, hb⟩ := he; exact ⟨_, rfl, ⟨g, c, rfl, own_bin o HL2.out (by decide)⟩, hb⟩)) ?_
 rintro v_ w1_ wj hg1 ⟨Go, ko, rfl, hbo⟩ hg2
 try simp only [Act.put, zq]
 have hgj := hg1.trans hg2
 have E193 := Hd (C182.out.drew.gr hgj)
 have E194 := Hd (C183.out.drew.gr hgj)
 have E195 := Hd (C184.out.drew.gr hgj)
 have E196 := Hd (C185.out.drew.gr hgj)
 have E197 := Hd (C186.out.drew.gr hgj)
 have E198 := Hd (C187.out.drew.gr hgj)
 have E199 := Hd (C188.out.drew.gr hgj)
 have E200 := Hd (C189.out.drew.gr hgj)
 have E201 := Hd (C190.out.drew.gr hgj)
 have E202 := Hd (C191.out.drew.gr hgj)
 have E203 := Hd (HBs.out.drew.gr hgj)
 have hbel204 := hbel192.drew.trans (Below.mono hgj hbel192.drew.size)
 have HO := Hd hbo
 clear C182 C183 C184 C185 C186 C187 C188 C189 C190 C191 HBs hbel192 hbo hg1 hg2 hgj
 refine tkp gS4 6 rfl ?_
 try simp only [Act.put, zq]
 refine wpAnyG_done (by kernel_rfl) ?_ _
 intro w205 hgw205
 try simp only [Act.put, zq]
 have C206 := Hd (E193.out.gr hgw205)
 have C207 := Hd (E194.out.gr hgw205)
 have C208 := Hd (E195.out.gr hgw205)
 have C209 := Hd (E196.out.gr hgw205)
 have C210 := Hd (E197.out.gr hgw205)
 have C211 := Hd (E198.out.gr hgw205)
 have C212 := Hd (E199.out.gr hgw205)
 have C213 := Hd (E200.out.gr hgw205)
 have C214 := Hd (E201.out.gr hgw205)
 have C215 := Hd (E202.out.gr hgw205)
 have C216 := Hd (E203.out.gr hgw205)
 have C217 := Hd (HO.out.gr hgw205)
 have hbel218 := hbel204.trans (Below.mono hgw205 hbel204.size)
 clear E193 E194 E195 E196 E197 E198 E199 E200 E201 E202 E203 HO hbel204 hgw205
 as_aux_lemma =>
 have HZ := Hd (zero_row w205)
 have HX1 := Hd (C216.out.below ((Below.refl w205.heap.size w205).alloc (Nat.le_refl _) (.cells #[] 5)))
 go_wp2_with (at_builtin; refine wpList_append_bytes _ rfl _ _ rfl w205.heap.size (.slice (some ⟨w205.heap.size, 0, none⟩) 0 0) 0 [] rfl HZ.out (some ⟨Gs, 0, none⟩) 64 cs L rfl HX1.out ?c1 ?c2 ?_)
 case c1 => omega
 case c2 => simp
 intro x1 u1 o1 g1
 have hb1 := ((Below.refl w205.heap.size w205).alloc (Nat.le_refl _) (.cells #[] 5)).grown g1 (by simp) (fun j hj => (HZ.out.lt j hj).1)
 have O1 := Hd ((show u1.ownsRow w205.heap.size 5 1 x1 64 (bytesV L) from by simpa [bytesV] using o1).alloc (.cells #[.int .u8 (0 : Nat)] 5))
 have HN1 := Hd (bin_one u1 0 (by decide))
 have hb1b := hb1.alloc hb1.size (.cells #[.int .u8 (0 : Nat)] 5)
 clear o1 g1 HX1
 go_wp2_with (at_builtin; refine wpList_append_bytes _ rfl _ _ rfl w205.heap.size x1 64 L rfl O1.out (some ⟨u1.heap.size, 0, none⟩) 1 1 [0] rfl HN1.out ?d1 ?d2 ?_)
 case d1 => omega
 case d2 => exact hb1b.size
 intro x2 u2 o2 g2
 have hb2 := hb1b.grown g2 hb1b.size (fun j hj => (O1.out.lt j hj).1)
 have o3 : u2.ownsRow w205.heap.size 5 1 x2 65 (bytesV (L ++ [0])) := by first | exact o2 | (simpa [bytesV] using o2)
 obtain ⟨Gl, kl, rfl, _⟩ := own_form o3 (by omega)
 have HLG := Hd (own_bin o3 (fun z hz => by rcases List.mem_append.1 hz with h | h; exact HL.out z h; rw [List.mem_singleton.1 h]; decide) (by omega))
 have C219 := Hd (C206.out.gr hb2)
 have C220 := Hd (C207.out.gr hb2)
 have C221 := Hd (C208.out.gr hb2)
 have C222 := Hd (C209.out.gr hb2)
 have C223 := Hd (C210.out.gr hb2)
 have C224 := Hd (C211.out.gr hb2)
 have C225 := Hd (C212.out.gr hb2)
 have C226 := Hd (C213.out.gr hb2)
 have C227 := Hd (C214.out.gr hb2)
 have C228 := Hd (C215.out.gr hb2)
 have C229 := Hd (C216.out.gr hb2)
 have C230 := Hd (C217.out.gr hb2)
 have hbel231 := hbel218.trans (Below.mono hb2 hbel218.size)
 have cs8 := sg_s (C219.out) L_lD.out L_lK.out
 clear o2 o3 g2 O1 HN1 HZ C206 C207 C208 C209 C210 C211 C212 C213 C214 C215 C216 C217 hbel218 hb1 hb1b hb2
 go_wp2_with fail
 refine (HV1.out _ _ _ _ _ C225.out (HBI.out.below hbel231) C229.out).mono ?_
 rintro e w232 ⟨rfl, hbw232⟩
 have C233 := Hd (C219.out.gr hbw232)
 have C234 := Hd (C220.out.gr hbw232)
 have C235 := Hd (C221.out.gr hbw232)
 have C236 := Hd (C222.out.gr hbw232)
 have C237 := Hd (C223.out.gr hbw232)
 have C238 := Hd (C224.out.gr hbw232)
 have C239 := Hd (C225.out.gr hbw232)
 have C240 := Hd (C226.out.gr hbw232)
 have C241 := Hd (C227.out.gr hbw232)
 have C242 := Hd (C228.out.gr hbw232)
 have C243 := Hd (C229.out.gr hbw232)
 have C244 := Hd (C230.out.gr hbw232)
 have C245 := Hd (HLG.out.gr hbw232)
 have hbel246 := hbel231.trans (Below.mono hbw232 hbel231.size)
 have cs8 := sg_s (C233.out) L_lD.out L_lK.out
 clear C219 C220 C221 C222 C223 C224 C225 C226 C227 C228 C229 C230 HLG hbel231 hbw232
 go_wp2_with fail
 refine (HV2.out _ _ _ _ _ C239.out (HBI.out.below hbel246) C244.out).mono ?_
 rintro e w247 ⟨rfl, hbw247⟩
 have C248 := Hd (C233.out.gr hbw247)
 have C249 := Hd (C234.out.gr hbw247)
 have C250 := Hd (C235.out.gr hbw247)
 have C251 := Hd (C236.out.gr hbw247)
 have C252 := Hd (C237.out.gr hbw247)
 have C253 := Hd (C238.out.gr hbw247)
 have C254 := Hd (C239.out.gr hbw247)
 have C255 := Hd (C240.out.gr hbw247)
 have C256 := Hd (C241.out.gr hbw247)
 have C257 := Hd (C242.out.gr hbw247)
 have C258 := Hd (C243.out.gr hbw247)
 have C259 := Hd (C244.out.gr hbw247)
 have C260 := Hd (C245.out.gr hbw247)
 have hbel261 := hbel246.trans (Below.mono hbw247 hbel246.size)
 have cs8 := sg_s (C248.out) L_lD.out L_lK.out
 clear C233 C234 C235 C236 C237 C238 C239 C240 C241 C242 C243 C244 C245 hbel246 hbw247
 go_wp2_with fail
 refine (HV3.out _ _ _ _ _ C254.out (HBI.out.below hbel261) C260.out).mono ?_
 rintro e w262 ⟨rfl, hbw262⟩
 have C263 := Hd (C248.out.gr hbw262)
 have C264 := Hd (C249.out.gr hbw262)
 have C265 := Hd (C250.out.gr hbw262)
 have C266 := Hd (C251.out.gr hbw262)
 have C267 := Hd (C252.out.gr hbw262)
 have C268 := Hd (C253.out.gr hbw262)
 have C269 := Hd (C254.out.gr hbw262)
 have C270 := Hd (C255.out.gr hbw262)
 have C271 := Hd (C256.out.gr hbw262)
 have C272 := Hd (C257.out.gr hbw262)
 have C273 := Hd (C258.out.gr hbw262)
 have C274 := Hd (C259.out.gr hbw262)
 have C275 := Hd (C260.out.gr hbw262)
 have hbel276 := hbel261.trans (Below.mono hbw262 hbel261.size)
 have cs8 := sg_s (C263.out) L_lD.out L_lK.out
 clear C248 C249 C250 C251 C252 C253 C254 C255 C256 C257 C258 C259 C260 hbel261 hbw262
 go_wp2_with fail
 go_ret
 exact ⟨rfl, hbel276⟩
end Go.Proofs.Ytdkkombpkojjaaa
