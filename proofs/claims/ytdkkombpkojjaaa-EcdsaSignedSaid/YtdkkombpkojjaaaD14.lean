/- Parts of proofs of statements, each text behind those that it stands on. No condition of its own. -/
import Derived.Great.Walk
import Derived.Test.YtdkkombpkojjaaaD13
namespace Go.Proofs.Ytdkkombpkojjaaa
set_option maxRecDepth 100000
set_option maxHeartbeats 800000
open Go.RowKit
set_option linter.unusedVariables false
set_option linter.unusedSimpArgs false
theorem four_l (l : List Nat) (h : l.length = 4) : ∃ a b c d, l = [a, b, c, d] := by
 match l, h with
 | [a, b, c, d], _ => exact ⟨a, b, c, d, rfl⟩
theorem built1 (l : List Nat) (hl : l.length = 4) : Try.prog.builtSlice 24 1 [(0, .agg (natsV .u64 l).toArray)] = some (natsV .u64 l).toArray := by
 obtain ⟨a, b, c, d, rfl⟩ := four_l l hl
 kernel_rfl
theorem built2 (l m : List Nat) (hl : l.length = 4) (hm : m.length = 4) : Try.prog.builtSlice 24 2 [(0, .agg (natsV .u64 l).toArray), (1, .agg (natsV .u64 m).toArray)] = some (natsV .u64 (l ++ m)).toArray := by
 obtain ⟨a, b, c, d, rfl⟩ := four_l l hl
 obtain ⟨a2, b2, c2, d2, rfl⟩ := four_l m hm
 kernel_rfl
section
variable {w : World} {ops : Array Oper} {rest : List Oper} {o : Oper} {a : Act} {Q : Exit → Act → World → Prop}
theorem bs1 (hgd : o.guard = none) (x : Operand) (ho : o.op = .buildSlice 100 1 #[(0, x)]) (l : List Nat) (hx : a.eval x = .agg (natsV .u64 l).toArray) (hl : l.length = 4)
   (h : wpList Try.prog ops Q rest (a.put o.dst (.slice (some ⟨w.heap.size, 0, none⟩) 1 1)) (w.alloc (.cells (natsV .u64 l).toArray 24))) : wpList Try.prog ops Q (o :: rest) a w :=
 Great.wpList_buildSliceTo hgd 100 24 1 _ ho _ rfl _ rfl Try.underlying100 _ (by simp only [List.map_toArray, List.map_cons, List.map_nil, hx]; exact built1 l hl) h
theorem bs2 (hgd : o.guard = none) (x y : Operand) (ho : o.op = .buildSlice 100 2 #[(0, x), (1, y)]) (l m : List Nat) (hx : a.eval x = .agg (natsV .u64 l).toArray) (hl : l.length = 4) (hy : a.eval y = .agg (natsV .u64 m).toArray) (hm : m.length = 4)
   (h : wpList Try.prog ops Q rest (a.put o.dst (.slice (some ⟨w.heap.size, 0, none⟩) 2 2)) (w.alloc (.cells (natsV .u64 (l ++ m)).toArray 24))) : wpList Try.prog ops Q (o :: rest) a w :=
 Great.wpList_buildSliceTo hgd 100 24 2 _ ho _ rfl _ rfl Try.underlying100 _ (by simp only [List.map_toArray, List.map_cons, List.map_nil, hx, hy]; exact built2 l m hl hm) h
end
theorem primeFor_0 (k : Int) (m f v : Nat) (w : World) (h : Wh k m f v) :
   Calls Try.prog 49 #[.int .i64 k, .slice none 0 0] w fun e w' => e = .returned (.tuple #[.agg (primL (wds 4 m) f).toArray, .int .i64 0]) ∧ Below w.heap.size w w' := by
 have := primeFor_any k m f v none [] 0 w h ⟨by simp, Or.inl rfl⟩ (by simp)
 simpa [rangeE] using this
theorem forms1 (W : World) (x : Nat) : Forms (W.alloc (.cells (natsV .u64 (wds 4 x)).toArray 24)) (some ⟨W.heap.size, 0, none⟩) [x] := by
 refine ⟨by simp, Or.inr ⟨_, rfl, by simp, fun i hi => ?_⟩⟩
 obtain rfl : i = 0 := by simpa using hi
 exact blk_rangeV (Blk.new W 24 (natsV .u64 (wds 4 x)))
theorem forms2 (W : World) (x y : Nat) : Forms (W.alloc (.cells (natsV .u64 (wds 4 x ++ wds 4 y)).toArray 24)) (some ⟨W.heap.size, 0, none⟩) [x, y] := by
 refine ⟨by simp, Or.inr ⟨_, rfl, by simp, fun i hi => ?_⟩⟩
 have hb := Blk.new W 24 (natsV .u64 (wds 4 x ++ wds 4 y))
 have hi2 : i < 2 := by simpa using hi
 intro j v hv
 have hj : j < 4 := by have := (List.getElem?_eq_some_iff.1 hv).1; rw [natsV_length, wds_len] at this; exact this
 rw [hb.cell, natsV_append]
 rcases Nat.lt_or_ge i 1 with h1 | h1
 · obtain rfl : i = 0 := by omega
   rw [List.getElem?_append_left (by rw [natsV_length, wds_len]; omega), show 4 * 0 + j = j by omega]; exact hv
 · obtain rfl : i = 1 := by omega
   rw [List.getElem?_append_right (by rw [natsV_length, wds_len]; omega), natsV_length, wds_len, show 4 * 1 + j - 4 = j by omega]; exact hv
def PErr (n : Nat) (l : List Nat) (k E : Int) : Prop := ∀ (W : World) (g : Nat), W.heap.size = g →
 Calls Try.prog 49 #[.int .i64 k, .slice (some ⟨g, 0, none⟩) n n] (W.alloc (.cells (natsV .u64 l).toArray 24)) fun e w' => e = .returned (.tuple #[.agg (primL (zeros 4) 0).toArray, .int .i64 E]) ∧ Below (W.alloc (.cells (natsV .u64 l).toArray 24)).heap.size (W.alloc (.cells (natsV .u64 l).toArray 24)) w'
def POk (n : Nat) (l : List Nat) (k : Int) (lm : List Nat) (f : Nat) : Prop := ∀ (W : World) (g : Nat), W.heap.size = g →
 Calls Try.prog 49 #[.int .i64 k, .slice (some ⟨g, 0, none⟩) n n] (W.alloc (.cells (natsV .u64 l).toArray 24)) fun e w' => e = .returned (.tuple #[.agg (primL lm f).toArray, .int .i64 0]) ∧ Below (W.alloc (.cells (natsV .u64 l).toArray 24)).heap.size (W.alloc (.cells (natsV .u64 l).toArray 24)) w'
theorem perr_1 (k : Int) (m f v x : Nat) (h : Wh k m f v) (hx : x < 2 ^ 256) (hc : ¬ x < m) : PErr 1 (wds 4 x) k 52 := fun W g hg => by
 subst hg
 have := primeFor_any k m f v _ [x] 1 _ h (forms1 W x) (by simpa using hx)
 rw [if_neg (by simpa using hc), show rangeE m [x] = 52 from if_neg (by simpa using hc)] at this
 exact this
theorem pok_1 (k : Int) (m f v x : Nat) (h : Wh k m f v) (hc : x < m) : POk 1 (wds 4 x) k (wds 4 m) f := fun W g hg => by
 subst hg
 have := primeFor_any k m f v _ [x] 1 _ h (forms1 W x) (by simp only [List.mem_singleton, forall_eq]; exact Nat.lt_trans hc h.fld.lt)
 rw [if_pos (by simpa using hc), show rangeE m [x] = 0 from if_pos (by simpa using hc)] at this
 exact this
theorem perr_2 (k : Int) (m f v x y : Nat) (h : Wh k m f v) (hx : x < 2 ^ 256) (hy : y < 2 ^ 256) (hc : ¬ (x < m ∧ y < m)) : PErr 2 (wds 4 x ++ wds 4 y) k 52 := fun W g hg => by
 subst hg
 have := primeFor_any k m f v _ [x, y] 2 _ h (forms2 W x y) (by simp only [List.mem_cons, List.not_mem_nil, or_false, forall_eq_or_imp, forall_eq]; exact ⟨hx, hy⟩)
 have hn : ¬ ∀ z ∈ [x, y], z < m := by simp only [List.mem_cons, List.not_mem_nil, or_false, forall_eq_or_imp, forall_eq]; exact hc
 rw [if_neg hn, show rangeE m [x, y] = 52 from if_neg hn] at this
 exact this
theorem pok_2 (k : Int) (m f v x y : Nat) (h : Wh k m f v) (hx : x < m) (hy : y < m) : POk 2 (wds 4 x ++ wds 4 y) k (wds 4 m) f := fun W g hg => by
 subst hg
 have hc : ∀ z ∈ [x, y], z < m := by simp only [List.mem_cons, List.not_mem_nil, or_false, forall_eq_or_imp, forall_eq]; exact ⟨hx, hy⟩
 have := primeFor_any k m f v _ [x, y] 2 _ h (forms2 W x y) (fun z hz => Nat.lt_trans (hc z hz) h.fld.lt)
 rw [if_pos hc, show rangeE m [x, y] = 0 from if_pos hc] at this
 exact this
theorem Out_err (k E : Int) (a : Nat) (w : World) (hE : E ≠ 0) (HP : PErr 1 (wds 4 a) k E) :
   Calls Try.prog 28 #[.int .i64 k, .agg (natsV .u64 (wds 4 a)).toArray] w fun e w' => e = .returned (.tuple #[.agg (natsV .u64 (zeros 4)).toArray, .int .i64 E]) ∧ Below w.heap.size w w' := by
 have HPF := Hd HP
 have LA := Hd (wds_len 4 a)
 clear HP
 generalize wds 4 a = la at *
 have B1 := Hd ((Blk.new w 24 (natsV .u64 la)).alloc (.cells (natsV .u64 (zeros 4)).toArray 24))
 have B2 := Hd (Blk.new2 w (.cells (natsV .u64 la).toArray 24) 24 (natsV .u64 (zeros 4)))
 have BEL := Hd (((Below.refl w.heap.size w).alloc (Nat.le_refl _) (.cells (natsV .u64 la).toArray 24)).alloc (by simp) (.cells (natsV .u64 (zeros 4)).toArray 24))
 have V1 := Hd (B1.out.alloc (.cells (natsV .u64 la).toArray 24))
 have V2 := Hd (B2.out.alloc (.cells (natsV .u64 la).toArray 24))
 have hbel3 := (BEL.out).alloc (by first | exact (BEL.out).size | (simp; omega)) (.cells (natsV .u64 la).toArray 24)
 skip --B1 B2
 have hEb : (E != 0) = true := by simpa using hE
 go_enter Try.func28, Try.ntmps28
 go_wp2_with (first | (refine ld24 rfl (.tmp 3) rfl w.heap.size rfl la B1.out LA.out ?_) | (refine bs1 rfl (.tmp 10) rfl la rfl LA.out ?_))
 clear B1 B2
 refine (HPF.out _ _ (by simp)).mono ?_
 rintro e w4 ⟨rfl, hbw4⟩
 have C5 := Hd (V1.out.below' hbw4)
 have C6 := Hd (V2.out.below' hbw4)
 have hbel7 := hbel3.trans (hbw4.mono hbel3.size)
 have Z9 := Hd (Blk.new w4 82 ((primL (zeros 4) 0)))
 have hz10 := Hd (below_setRow' (hbel7.alloc hbel7.size (.cells ((primL (zeros 4) 0)).toArray 82)) hbel7.size ((primL (zeros 4) 0)).toArray)
 have Y11 := Hd ((C5.out.alloc (.cells ((primL (zeros 4) 0)).toArray 82)).row ((primL (zeros 4) 0)).toArray (Nat.ne_of_lt C5.out.lt))
 have Y12 := Hd ((C6.out.alloc (.cells ((primL (zeros 4) 0)).toArray 82)).row ((primL (zeros 4) 0)).toArray (Nat.ne_of_lt C6.out.lt))
 have Y13 := Hd (Z9.out.setRow ((primL (zeros 4) 0)))
 clear V1 V2 hbw4 hbel3
 go_wp2_with (first | (refine st83 rfl (.tmp 6) (.tmp 13) rfl w4.heap.size rfl (primL (zeros 4) 0) rfl (primL_ok (zeros 4) 0 rfl) (primL (zeros 4) 0) Z9.out rfl ?_; generalize hW : World.setRow _ _ _ = w8; have D15 := Hd (show Blk w8 w.heap.size 24 (natsV .u64 la) from (by rw [← hW]; exact Y11.out)); have D16 := Hd (show Blk w8 (w.heap.size + 1) 24 (natsV .u64 (zeros 4)) from (by rw [← hW]; exact Y12.out)); have D17 := Hd (show Blk w8 w4.heap.size 82 ((primL (zeros 4) 0)) from (by rw [← hW]; exact Y13.out)); have LE_D17 := (hbel7).size; have NE_D16 := Nat.ne_of_lt C6.out.lt; have hbel18 : Below w.heap.size w w8 := (by rw [← hW]; exact hz10.out); clear hW Z9 hz10 C5 C6 Y11 Y12 Y13 hbel7; generalize w4.heap.size = G14 at *) | (refine st24 rfl (.tmp 4) (.tmp 17) rfl (w.heap.size + 1) rfl (zeros 4) ((num_lit0.trans (by rw [num_zero]))) rfl (zeros 4) D16.out rfl ?_))
 refine bodyPost_ret (v := .tuple #[.agg (natsV .u64 (zeros 4)).toArray, .int .i64 E]) ?_ rfl ⟨rfl, below_setRow' hbel18 (by first | exact Nat.le_refl _ | omega) _⟩
 exact ret24x Try.results28 _ _ (w.heap.size + 1) (zeros 4) _ rfl rfl (D16.out.setRow _) rfl
theorem Out_ok (k : Int) (m f v : Nat) (a : Nat) (w : World) (H : Fld m f v) (ha : a < 2 ^ 256) (HP : POk 1 (wds 4 a) k (wds 4 m) f) :
   Calls Try.prog 28 #[.int .i64 k, .agg (natsV .u64 (wds 4 a)).toArray] w fun e w' => e = .returned (.tuple #[.agg (natsV .u64 (wds 4 (ofF m v a))).toArray, .int .i64 0]) ∧ Below w.heap.size w w' := by
 have HPF := Hd HP
 have HC := Hd (fun w => out_any m f v a w H ha)
 have LM := Hd (wds_len 4 m)
 have LR := Hd (wds_len 4 (ofF m v a))
 have LP := Hd (primL_ok (wds 4 m) f (wds_len 4 m))
 clear HP H ha
 generalize wds 4 (ofF m v a) = lr at *
 have LA := Hd (wds_len 4 a)
 generalize wds 4 a = la at *
 generalize wds 4 m = lm at *
 have B1 := Hd ((Blk.new w 24 (natsV .u64 la)).alloc (.cells (natsV .u64 (zeros 4)).toArray 24))
 have B2 := Hd (Blk.new2 w (.cells (natsV .u64 la).toArray 24) 24 (natsV .u64 (zeros 4)))
 have BEL := Hd (((Below.refl w.heap.size w).alloc (Nat.le_refl _) (.cells (natsV .u64 la).toArray 24)).alloc (by simp) (.cells (natsV .u64 (zeros 4)).toArray 24))
 have V1 := Hd (B1.out.alloc (.cells (natsV .u64 la).toArray 24))
 have V2 := Hd (B2.out.alloc (.cells (natsV .u64 la).toArray 24))
 have hbel3 := (BEL.out).alloc (by first | exact (BEL.out).size | (simp; omega)) (.cells (natsV .u64 la).toArray 24)
 skip --B1 B2
 go_enter Try.func28, Try.ntmps28
 go_wp2_with (first | (refine ld24 rfl (.tmp 3) rfl w.heap.size rfl la B1.out LA.out ?_) | (refine bs1 rfl (.tmp 10) rfl la rfl LA.out ?_))
 clear B1 B2
 refine (HPF.out _ _ (by simp)).mono ?_
 rintro e w4 ⟨rfl, hbw4⟩
 have C5 := Hd (V1.out.below' hbw4)
 have C6 := Hd (V2.out.below' hbw4)
 have hbel7 := hbel3.trans (hbw4.mono hbel3.size)
 have Z9 := Hd (Blk.new w4 82 ((primL (zeros 4) 0)))
 have hz10 := Hd (below_setRow' (hbel7.alloc hbel7.size (.cells ((primL (zeros 4) 0)).toArray 82)) hbel7.size ((primL lm f)).toArray)
 have Y11 := Hd ((C5.out.alloc (.cells ((primL (zeros 4) 0)).toArray 82)).row ((primL lm f)).toArray (Nat.ne_of_lt C5.out.lt))
 have Y12 := Hd ((C6.out.alloc (.cells ((primL (zeros 4) 0)).toArray 82)).row ((primL lm f)).toArray (Nat.ne_of_lt C6.out.lt))
 have Y13 := Hd (Z9.out.setRow ((primL lm f)))
 clear V1 V2 hbw4 hbel3
 go_wp2_with (first | (refine st83 rfl (.tmp 6) (.tmp 13) rfl w4.heap.size rfl (primL lm f) rfl LP.out (primL (zeros 4) 0) Z9.out rfl ?_; generalize hW : World.setRow _ _ _ = w8; have D15 := Hd (show Blk w8 w.heap.size 24 (natsV .u64 la) from (by rw [← hW]; exact Y11.out)); have D16 := Hd (show Blk w8 (w.heap.size + 1) 24 (natsV .u64 (zeros 4)) from (by rw [← hW]; exact Y12.out)); have D17 := Hd (show Blk w8 w4.heap.size 82 ((primL lm f)) from (by rw [← hW]; exact Y13.out)); have LE_D17 := (hbel7).size; have NE_D16 := Nat.ne_of_lt C6.out.lt; have hbel18 : Below w.heap.size w w8 := (by rw [← hW]; exact hz10.out); clear hW Z9 hz10 C5 C6 Y11 Y12 Y13 hbel7; generalize w4.heap.size = G14 at *) | (refine ld83 rfl (.tmp 6) rfl G14 rfl (primL lm f) D17.out LP.out.1 ?_) | (refine ld24 rfl (.tmp 3) rfl w.heap.size rfl la D15.out LA.out ?_))
 refine (HC.out _).mono ?_
 rintro e w19 ⟨rfl, hbw19⟩
 have C20 := Hd (D15.out.below' hbw19)
 have C21 := Hd (D16.out.below' hbw19)
 have C22 := Hd (D17.out.below' hbw19)
 have hbel23 := hbel18.trans (hbw19.mono hbel18.size)
 clear D15 D16 D17 hbw19 hbel18
 go_wp2_with (first | (refine st24 rfl (.tmp 4) (.tmp 21) rfl (w.heap.size + 1) rfl lr rfl LR.out (zeros 4) C21.out rfl ?_))
 refine bodyPost_ret (v := .tuple #[.agg (natsV .u64 lr).toArray, .int .i64 0]) ?_ rfl ⟨rfl, below_setRow' hbel23 (by first | exact Nat.le_refl _ | omega) _⟩
 exact ret24x Try.results28 _ _ (w.heap.size + 1) lr _ rfl rfl (C21.out.setRow _) LR.out
theorem Sub_err (k E : Int) (a : Nat) (b : Nat) (w : World) (hE : E ≠ 0) (HP : PErr 2 (wds 4 a ++ wds 4 b) k E) :
   Calls Try.prog 81 #[.int .i64 k, .agg (natsV .u64 (wds 4 a)).toArray, .agg (natsV .u64 (wds 4 b)).toArray] w fun e w' => e = .returned (.tuple #[.agg (natsV .u64 (zeros 4)).toArray, .int .i64 E]) ∧ Below w.heap.size w w' := by
 have HPF := Hd HP
 have LA := Hd (wds_len 4 a)
 clear HP
 generalize wds 4 a = la at *
 have LB := Hd (wds_len 4 b)
 generalize wds 4 b = lb at *
 have B1 := Hd (((Blk.new w 24 (natsV .u64 la)).alloc (.cells (natsV .u64 lb).toArray 24)).alloc (.cells (natsV .u64 (zeros 4)).toArray 24))
 have B2 := Hd ((Blk.new2 w (.cells (natsV .u64 la).toArray 24) 24 (natsV .u64 lb)).alloc (.cells (natsV .u64 (zeros 4)).toArray 24))
 have B3 := Hd (Blk.new3 w (.cells (natsV .u64 la).toArray 24) (.cells (natsV .u64 lb).toArray 24) 24 (natsV .u64 (zeros 4)))
 have BEL := Hd ((((Below.refl w.heap.size w).alloc (Nat.le_refl _) (.cells (natsV .u64 la).toArray 24)).alloc (by simp) (.cells (natsV .u64 lb).toArray 24)).alloc (by simp; omega) (.cells (natsV .u64 (zeros 4)).toArray 24))
 have V1 := Hd (B1.out.alloc (.cells (natsV .u64 (la ++ lb)).toArray 24))
 have V2 := Hd (B2.out.alloc (.cells (natsV .u64 (la ++ lb)).toArray 24))
 have V3 := Hd (B3.out.alloc (.cells (natsV .u64 (la ++ lb)).toArray 24))
 have hbel4 := (BEL.out).alloc (by first | exact (BEL.out).size | (simp; omega)) (.cells (natsV .u64 (la ++ lb)).toArray 24)
 skip --B1 B2 B3
 have hEb : (E != 0) = true := by simpa using hE
 go_enter Try.func81, Try.ntmps81
 go_wp2_with (first | (refine ld24 rfl (.tmp 4) rfl w.heap.size rfl la B1.out LA.out ?_) | (refine ld24 rfl (.tmp 5) rfl (w.heap.size + 1) rfl lb B2.out LB.out ?_) | (refine bs2 rfl (.tmp 12) (.tmp 13) rfl la lb rfl LA.out rfl LB.out ?_))
 clear B1 B2 B3
 refine (HPF.out _ _ (by simp)).mono ?_
 rintro e w5 ⟨rfl, hbw5⟩
 have C6 := Hd (V1.out.below' hbw5)
 have C7 := Hd (V2.out.below' hbw5)
 have C8 := Hd (V3.out.below' hbw5)
 have hbel9 := hbel4.trans (hbw5.mono hbel4.size)
 have Z11 := Hd (Blk.new w5 82 ((primL (zeros 4) 0)))
 have hz12 := Hd (below_setRow' (hbel9.alloc hbel9.size (.cells ((primL (zeros 4) 0)).toArray 82)) hbel9.size ((primL (zeros 4) 0)).toArray)
 have Y13 := Hd ((C6.out.alloc (.cells ((primL (zeros 4) 0)).toArray 82)).row ((primL (zeros 4) 0)).toArray (Nat.ne_of_lt C6.out.lt))
 have Y14 := Hd ((C7.out.alloc (.cells ((primL (zeros 4) 0)).toArray 82)).row ((primL (zeros 4) 0)).toArray (Nat.ne_of_lt C7.out.lt))
 have Y15 := Hd ((C8.out.alloc (.cells ((primL (zeros 4) 0)).toArray 82)).row ((primL (zeros 4) 0)).toArray (Nat.ne_of_lt C8.out.lt))
 have Y16 := Hd (Z11.out.setRow ((primL (zeros 4) 0)))
 clear V1 V2 V3 hbw5 hbel4
 go_wp2_with (first | (refine st83 rfl (.tmp 8) (.tmp 16) rfl w5.heap.size rfl (primL (zeros 4) 0) rfl (primL_ok (zeros 4) 0 rfl) (primL (zeros 4) 0) Z11.out rfl ?_; generalize hW : World.setRow _ _ _ = w10; have D18 := Hd (show Blk w10 w.heap.size 24 (natsV .u64 la) from (by rw [← hW]; exact Y13.out)); have D19 := Hd (show Blk w10 (w.heap.size + 1) 24 (natsV .u64 lb) from (by rw [← hW]; exact Y14.out)); have D20 := Hd (show Blk w10 (w.heap.size + 1 + 1) 24 (natsV .u64 (zeros 4)) from (by rw [← hW]; exact Y15.out)); have D21 := Hd (show Blk w10 w5.heap.size 82 ((primL (zeros 4) 0)) from (by rw [← hW]; exact Y16.out)); have LE_D21 := (hbel9).size; have NE_D20 := Nat.ne_of_lt C8.out.lt; have hbel22 : Below w.heap.size w w10 := (by rw [← hW]; exact hz12.out); clear hW Z11 hz12 C6 C7 C8 Y13 Y14 Y15 Y16 hbel9; generalize w5.heap.size = G17 at *) | (refine st24 rfl (.tmp 6) (.tmp 20) rfl (w.heap.size + 1 + 1) rfl (zeros 4) ((num_lit0.trans (by rw [num_zero]))) rfl (zeros 4) D20.out rfl ?_))
 refine bodyPost_ret (v := .tuple #[.agg (natsV .u64 (zeros 4)).toArray, .int .i64 E]) ?_ rfl ⟨rfl, below_setRow' hbel22 (by first | exact Nat.le_refl _ | omega) _⟩
 exact ret24x Try.results81 _ _ (w.heap.size + 1 + 1) (zeros 4) _ rfl rfl (D20.out.setRow _) rfl
theorem Sub_ok (k : Int) (m f v : Nat) (a : Nat) (b : Nat) (w : World) (H : Fld m f v) (ha : a < m) (hb : b < m) (HP : POk 2 (wds 4 a ++ wds 4 b) k (wds 4 m) f) :
   Calls Try.prog 81 #[.int .i64 k, .agg (natsV .u64 (wds 4 a)).toArray, .agg (natsV .u64 (wds 4 b)).toArray] w fun e w' => e = .returned (.tuple #[.agg (natsV .u64 (wds 4 ((a + m - b) % m))).toArray, .int .i64 0]) ∧ Below w.heap.size w w' := by
 have HPF := Hd HP
 have HC := Hd (fun w => minus_any m f a b w H.lt ha hb)
 have LM := Hd (wds_len 4 m)
 have LR := Hd (wds_len 4 ((a + m - b) % m))
 have LP := Hd (primL_ok (wds 4 m) f (wds_len 4 m))
 clear HP H ha hb
 generalize wds 4 ((a + m - b) % m) = lr at *
 have LA := Hd (wds_len 4 a)
 generalize wds 4 a = la at *
 have LB := Hd (wds_len 4 b)
 generalize wds 4 b = lb at *
 generalize wds 4 m = lm at *
 have B1 := Hd (((Blk.new w 24 (natsV .u64 la)).alloc (.cells (natsV .u64 lb).toArray 24)).alloc (.cells (natsV .u64 (zeros 4)).toArray 24))
 have B2 := Hd ((Blk.new2 w (.cells (natsV .u64 la).toArray 24) 24 (natsV .u64 lb)).alloc (.cells (natsV .u64 (zeros 4)).toArray 24))
 have B3 := Hd (Blk.new3 w (.cells (natsV .u64 la).toArray 24) (.cells (natsV .u64 lb).toArray 24) 24 (natsV .u64 (zeros 4)))
 have BEL := Hd ((((Below.refl w.heap.size w).alloc (Nat.le_refl _) (.cells (natsV .u64 la).toArray 24)).alloc (by simp) (.cells (natsV .u64 lb).toArray 24)).alloc (by simp; omega) (.cells (natsV .u64 (zeros 4)).toArray 24))
 have V1 := Hd (B1.out.alloc (.cells (natsV .u64 (la ++ lb)).toArray 24))
 have V2 := Hd (B2.out.alloc (.cells (natsV .u64 (la ++ lb)).toArray 24))
 have V3 := Hd (B3.out.alloc (.cells (natsV .u64 (la ++ lb)).toArray 24))
 have hbel4 := (BEL.out).alloc (by first | exact (BEL.out).size | (simp; omega)) (.cells (natsV .u64 (la ++ lb)).toArray 24)
 skip --B1 B2 B3
 go_enter Try.func81, Try.ntmps81
 go_wp2_with (first | (refine ld24 rfl (.tmp 4) rfl w.heap.size rfl la B1.out LA.out ?_) | (refine ld24 rfl (.tmp 5) rfl (w.heap.size + 1) rfl lb B2.out LB.out ?_) | (refine bs2 rfl (.tmp 12) (.tmp 13) rfl la lb rfl LA.out rfl LB.out ?_))
 clear B1 B2 B3
 refine (HPF.out _ _ (by simp)).mono ?_
 rintro e w5 ⟨rfl, hbw5⟩
 have C6 := Hd (V1.out.below' hbw5)
 have C7 := Hd (V2.out.below' hbw5)
 have C8 := Hd (V3.out.below' hbw5)
 have hbel9 := hbel4.trans (hbw5.mono hbel4.size)
 have Z11 := Hd (Blk.new w5 82 ((primL (zeros 4) 0)))
 have hz12 := Hd (below_setRow' (hbel9.alloc hbel9.size (.cells ((primL (zeros 4) 0)).toArray 82)) hbel9.size ((primL lm f)).toArray)
 have Y13 := Hd ((C6.out.alloc (.cells ((primL (zeros 4) 0)).toArray 82)).row ((primL lm f)).toArray (Nat.ne_of_lt C6.out.lt))
 have Y14 := Hd ((C7.out.alloc (.cells ((primL (zeros 4) 0)).toArray 82)).row ((primL lm f)).toArray (Nat.ne_of_lt C7.out.lt))
 have Y15 := Hd ((C8.out.alloc (.cells ((primL (zeros 4) 0)).toArray 82)).row ((primL lm f)).toArray (Nat.ne_of_lt C8.out.lt))
 have Y16 := Hd (Z11.out.setRow ((primL lm f)))
 clear V1 V2 V3 hbw5 hbel4
 go_wp2_with (first | (refine st83 rfl (.tmp 8) (.tmp 16) rfl w5.heap.size rfl (primL lm f) rfl LP.out (primL (zeros 4) 0) Z11.out rfl ?_; generalize hW : World.setRow _ _ _ = w10; have D18 := Hd (show Blk w10 w.heap.size 24 (natsV .u64 la) from (by rw [← hW]; exact Y13.out)); have D19 := Hd (show Blk w10 (w.heap.size + 1) 24 (natsV .u64 lb) from (by rw [← hW]; exact Y14.out)); have D20 := Hd (show Blk w10 (w.heap.size + 1 + 1) 24 (natsV .u64 (zeros 4)) from (by rw [← hW]; exact Y15.out)); have D21 := Hd (show Blk w10 w5.heap.size 82 ((primL lm f)) from (by rw [← hW]; exact Y16.out)); have LE_D21 := (hbel9).size; have NE_D20 := Nat.ne_of_lt C8.out.lt; have hbel22 : Below w.heap.size w w10 := (by rw [← hW]; exact hz12.out); clear hW Z11 hz12 C6 C7 C8 Y13 Y14 Y15 Y16 hbel9; generalize w5.heap.size = G17 at *) | (refine ld83 rfl (.tmp 8) rfl G17 rfl (primL lm f) D21.out LP.out.1 ?_) | (refine ld24 rfl (.tmp 4) rfl w.heap.size rfl la D18.out LA.out ?_) | (refine ld24 rfl (.tmp 5) rfl (w.heap.size + 1) rfl lb D19.out LB.out ?_))
 refine (HC.out _).mono ?_
 rintro e w23 ⟨rfl, hbw23⟩
 have C24 := Hd (D18.out.below' hbw23)
 have C25 := Hd (D19.out.below' hbw23)
 have C26 := Hd (D20.out.below' hbw23)
 have C27 := Hd (D21.out.below' hbw23)
 have hbel28 := hbel22.trans (hbw23.mono hbel22.size)
 clear D18 D19 D20 D21 hbw23 hbel22
 go_wp2_with (first | (refine st24 rfl (.tmp 6) (.tmp 25) rfl (w.heap.size + 1 + 1) rfl lr rfl LR.out (zeros 4) C26.out rfl ?_))
 refine bodyPost_ret (v := .tuple #[.agg (natsV .u64 lr).toArray, .int .i64 0]) ?_ rfl ⟨rfl, below_setRow' hbel28 (by first | exact Nat.le_refl _ | omega) _⟩
 exact ret24x Try.results81 _ _ (w.heap.size + 1 + 1) lr _ rfl rfl (C26.out.setRow _) LR.out
theorem Mul_ok (k : Int) (m f v : Nat) (a : Nat) (b : Nat) (w : World) (H : Fld m f v) (ha : a < m) (hb : b < m) (HP : POk 2 (wds 4 a ++ wds 4 b) k (wds 4 m) f) :
   Calls Try.prog 27 #[.int .i64 k, .agg (natsV .u64 (wds 4 a)).toArray, .agg (natsV .u64 (wds 4 b)).toArray] w fun e w' => e = .returned (.tuple #[.agg (natsV .u64 (wds 4 (ofF m v (a * b)))).toArray, .int .i64 0]) ∧ Below w.heap.size w w' := by
 have HPF := Hd HP
 have hlt := H.lt
 have HC := Hd (fun w => ptimes_any m f v a b w H (Nat.lt_of_lt_of_le (Nat.mul_lt_mul_of_lt_of_lt ha hb) (Nat.mul_le_mul_left m (Nat.le_of_lt hlt))) (by omega) (by omega))
 have LM := Hd (wds_len 4 m)
 have LR := Hd (wds_len 4 (ofF m v (a * b)))
 have LP := Hd (primL_ok (wds 4 m) f (wds_len 4 m))
 clear HP H ha hb hlt
 generalize wds 4 (ofF m v (a * b)) = lr at *
 have LA := Hd (wds_len 4 a)
 generalize wds 4 a = la at *
 have LB := Hd (wds_len 4 b)
 generalize wds 4 b = lb at *
 generalize wds 4 m = lm at *
 have B1 := Hd (((Blk.new w 24 (natsV .u64 la)).alloc (.cells (natsV .u64 lb).toArray 24)).alloc (.cells (natsV .u64 (zeros 4)).toArray 24))
 have B2 := Hd ((Blk.new2 w (.cells (natsV .u64 la).toArray 24) 24 (natsV .u64 lb)).alloc (.cells (natsV .u64 (zeros 4)).toArray 24))
 have B3 := Hd (Blk.new3 w (.cells (natsV .u64 la).toArray 24) (.cells (natsV .u64 lb).toArray 24) 24 (natsV .u64 (zeros 4)))
 have BEL := Hd ((((Below.refl w.heap.size w).alloc (Nat.le_refl _) (.cells (natsV .u64 la).toArray 24)).alloc (by simp) (.cells (natsV .u64 lb).toArray 24)).alloc (by simp; omega) (.cells (natsV .u64 (zeros 4)).toArray 24))
 have V1 := Hd (B1.out.alloc (.cells (natsV .u64 (la ++ lb)).toArray 24))
 have V2 := Hd (B2.out.alloc (.cells (natsV .u64 (la ++ lb)).toArray 24))
 have V3 := Hd (B3.out.alloc (.cells (natsV .u64 (la ++ lb)).toArray 24))
 have hbel4 := (BEL.out).alloc (by first | exact (BEL.out).size | (simp; omega)) (.cells (natsV .u64 (la ++ lb)).toArray 24)
 skip --B1 B2 B3
 go_enter Try.func27, Try.ntmps27
 go_wp2_with (first | (refine ld24 rfl (.tmp 4) rfl w.heap.size rfl la B1.out LA.out ?_) | (refine ld24 rfl (.tmp 5) rfl (w.heap.size + 1) rfl lb B2.out LB.out ?_) | (refine bs2 rfl (.tmp 12) (.tmp 13) rfl la lb rfl LA.out rfl LB.out ?_))
 clear B1 B2 B3
 refine (HPF.out _ _ (by simp)).mono ?_
 rintro e w5 ⟨rfl, hbw5⟩
 have C6 := Hd (V1.out.below' hbw5)
 have C7 := Hd (V2.out.below' hbw5)
 have C8 := Hd (V3.out.below' hbw5)
 have hbel9 := hbel4.trans (hbw5.mono hbel4.size)
 have Z11 := Hd (Blk.new w5 82 ((primL (zeros 4) 0)))
 have hz12 := Hd (below_setRow' (hbel9.alloc hbel9.size (.cells ((primL (zeros 4) 0)).toArray 82)) hbel9.size ((primL lm f)).toArray)
 have Y13 := Hd ((C6.out.alloc (.cells ((primL (zeros 4) 0)).toArray 82)).row ((primL lm f)).toArray (Nat.ne_of_lt C6.out.lt))
 have Y14 := Hd ((C7.out.alloc (.cells ((primL (zeros 4) 0)).toArray 82)).row ((primL lm f)).toArray (Nat.ne_of_lt C7.out.lt))
 have Y15 := Hd ((C8.out.alloc (.cells ((primL (zeros 4) 0)).toArray 82)).row ((primL lm f)).toArray (Nat.ne_of_lt C8.out.lt))
 have Y16 := Hd (Z11.out.setRow ((primL lm f)))
 clear V1 V2 V3 hbw5 hbel4
 go_wp2_with (first | (refine st83 rfl (.tmp 8) (.tmp 16) rfl w5.heap.size rfl (primL lm f) rfl LP.out (primL (zeros 4) 0) Z11.out rfl ?_; generalize hW : World.setRow _ _ _ = w10; have D18 := Hd (show Blk w10 w.heap.size 24 (natsV .u64 la) from (by rw [← hW]; exact Y13.out)); have D19 := Hd (show Blk w10 (w.heap.size + 1) 24 (natsV .u64 lb) from (by rw [← hW]; exact Y14.out)); have D20 := Hd (show Blk w10 (w.heap.size + 1 + 1) 24 (natsV .u64 (zeros 4)) from (by rw [← hW]; exact Y15.out)); have D21 := Hd (show Blk w10 w5.heap.size 82 ((primL lm f)) from (by rw [← hW]; exact Y16.out)); have LE_D21 := (hbel9).size; have NE_D20 := Nat.ne_of_lt C8.out.lt; have hbel22 : Below w.heap.size w w10 := (by rw [← hW]; exact hz12.out); clear hW Z11 hz12 C6 C7 C8 Y13 Y14 Y15 Y16 hbel9; generalize w5.heap.size = G17 at *) | (refine ld83 rfl (.tmp 8) rfl G17 rfl (primL lm f) D21.out LP.out.1 ?_) | (refine ld24 rfl (.tmp 4) rfl w.heap.size rfl la D18.out LA.out ?_) | (refine ld24 rfl (.tmp 5) rfl (w.heap.size + 1) rfl lb D19.out LB.out ?_))
 refine (HC.out _).mono ?_
 rintro e w23 ⟨rfl, hbw23⟩
 have C24 := Hd (D18.out.below' hbw23)
 have C25 := Hd (D19.out.below' hbw23)
 have C26 := Hd (D20.out.below' hbw23)
 have C27 := Hd (D21.out.below' hbw23)
 have hbel28 := hbel22.trans (hbw23.mono hbel22.size)
 clear D18 D19 D20 D21 hbw23 hbel22
 go_wp2_with (first | (refine st24 rfl (.tmp 6) (.tmp 25) rfl (w.heap.size + 1 + 1) rfl lr rfl LR.out (zeros 4) C26.out rfl ?_))
 refine bodyPost_ret (v := .tuple #[.agg (natsV .u64 lr).toArray, .int .i64 0]) ?_ rfl ⟨rfl, below_setRow' hbel28 (by first | exact Nat.le_refl _ | omega) _⟩
 exact ret24x Try.results27 _ _ (w.heap.size + 1 + 1) lr _ rfl rfl (C26.out.setRow _) LR.out
theorem FAdd_ok (k : Int) (m f v : Nat) (a : Nat) (b : Nat) (w : World) (H : Fld m f v) (ha : a < m) (hb : b < m) (HP : POk 2 (wds 4 a ++ wds 4 b) k (wds 4 m) f) :
   Calls Try.prog 80 #[.int .i64 k, .agg (natsV .u64 (wds 4 a)).toArray, .agg (natsV .u64 (wds 4 b)).toArray] w fun e w' => e = .returned (.tuple #[.agg (natsV .u64 (wds 4 ((a + b) % m))).toArray, .int .i64 0]) ∧ Below w.heap.size w w' := by
 have HPF := Hd HP
 have hlt := H.lt
 have HA := Hd (fun w => Add_any a b w (by omega) (by omega))
 clear HP
 have hsum : wds 4 (a + b) = wds 4 ((a + b) % 2 ^ 256) := (wds_mod 4 4 _ (Nat.le_refl _)).symm
 have hdm : (a + b) % 2 ^ 256 + 2 ^ 256 * addC a b = a + b := Nat.mod_add_div _ _
 have HB := Hd (fun w => below_any m f ((a + b) % 2 ^ 256) (addC a b) w hlt (Nat.mod_lt _ (Nat.two_pow_pos 256)) (by rw [hdm]; omega) (by unfold addC; omega))
 rw [hdm, ← hsum] at HB
 have LS := Hd (wds_len 4 (a + b))
 generalize wds 4 (a + b) = ls at *
 generalize addC a b = cy at *
 have LM := Hd (wds_len 4 m)
 have LR := Hd (wds_len 4 ((a + b) % m))
 have LP := Hd (primL_ok (wds 4 m) f (wds_len 4 m))
 clear H ha hb hlt hsum hdm
 generalize wds 4 ((a + b) % m) = lr at *
 have LA := Hd (wds_len 4 a)
 generalize wds 4 a = la at *
 have LB := Hd (wds_len 4 b)
 generalize wds 4 b = lb at *
 generalize wds 4 m = lm at *
 have B1 := Hd (((Blk.new w 24 (natsV .u64 la)).alloc (.cells (natsV .u64 lb).toArray 24)).alloc (.cells (natsV .u64 (zeros 4)).toArray 24))
 have B2 := Hd ((Blk.new2 w (.cells (natsV .u64 la).toArray 24) 24 (natsV .u64 lb)).alloc (.cells (natsV .u64 (zeros 4)).toArray 24))
 have B3 := Hd (Blk.new3 w (.cells (natsV .u64 la).toArray 24) (.cells (natsV .u64 lb).toArray 24) 24 (natsV .u64 (zeros 4)))
 have BEL := Hd ((((Below.refl w.heap.size w).alloc (Nat.le_refl _) (.cells (natsV .u64 la).toArray 24)).alloc (by simp) (.cells (natsV .u64 lb).toArray 24)).alloc (by simp; omega) (.cells (natsV .u64 (zeros 4)).toArray 24))
 have V1 := Hd (B1.out.alloc (.cells (natsV .u64 (la ++ lb)).toArray 24))
 have V2 := Hd (B2.out.alloc (.cells (natsV .u64 (la ++ lb)).toArray 24))
 have V3 := Hd (B3.out.alloc (.cells (natsV .u64 (la ++ lb)).toArray 24))
 have hbel4 := (BEL.out).alloc (by first | exact (BEL.out).size | (simp; omega)) (.cells (natsV .u64 (la ++ lb)).toArray 24)
 skip --B1 B2 B3
 go_enter Try.func80, Try.ntmps80
 go_wp2_with (first | (refine ld24 rfl (.tmp 4) rfl w.heap.size rfl la B1.out LA.out ?_) | (refine ld24 rfl (.tmp 5) rfl (w.heap.size + 1) rfl lb B2.out LB.out ?_) | (refine bs2 rfl (.tmp 14) (.tmp 15) rfl la lb rfl LA.out rfl LB.out ?_))
 clear B1 B2 B3
 refine (HPF.out _ _ (by simp)).mono ?_
 rintro e w5 ⟨rfl, hbw5⟩
 have C6 := Hd (V1.out.below' hbw5)
 have C7 := Hd (V2.out.below' hbw5)
 have C8 := Hd (V3.out.below' hbw5)
 have hbel9 := hbel4.trans (hbw5.mono hbel4.size)
 have Z11 := Hd (Blk.new w5 82 ((primL (zeros 4) 0)))
 have hz12 := Hd (below_setRow' (hbel9.alloc hbel9.size (.cells ((primL (zeros 4) 0)).toArray 82)) hbel9.size ((primL lm f)).toArray)
 have Y13 := Hd ((C6.out.alloc (.cells ((primL (zeros 4) 0)).toArray 82)).row ((primL lm f)).toArray (Nat.ne_of_lt C6.out.lt))
 have Y14 := Hd ((C7.out.alloc (.cells ((primL (zeros 4) 0)).toArray 82)).row ((primL lm f)).toArray (Nat.ne_of_lt C7.out.lt))
 have Y15 := Hd ((C8.out.alloc (.cells ((primL (zeros 4) 0)).toArray 82)).row ((primL lm f)).toArray (Nat.ne_of_lt C8.out.lt))
 have Y16 := Hd (Z11.out.setRow ((primL lm f)))
 clear V1 V2 V3 hbw5 hbel4
 go_wp2_with (first | (refine st83 rfl (.tmp 8) (.tmp 18) rfl w5.heap.size rfl (primL lm f) rfl LP.out (primL (zeros 4) 0) Z11.out rfl ?_; generalize hW : World.setRow _ _ _ = w10; have D18 := Hd (show Blk w10 w.heap.size 24 (natsV .u64 la) from (by rw [← hW]; exact Y13.out)); have D19 := Hd (show Blk w10 (w.heap.size + 1) 24 (natsV .u64 lb) from (by rw [← hW]; exact Y14.out)); have D20 := Hd (show Blk w10 (w.heap.size + 1 + 1) 24 (natsV .u64 (zeros 4)) from (by rw [← hW]; exact Y15.out)); have D21 := Hd (show Blk w10 w5.heap.size 82 ((primL lm f)) from (by rw [← hW]; exact Y16.out)); have LE_D21 := (hbel9).size; have NE_D20 := Nat.ne_of_lt C8.out.lt; have hbel22 : Below w.heap.size w w10 := (by rw [← hW]; exact hz12.out); clear hW Z11 hz12 C6 C7 C8 Y13 Y14 Y15 Y16 hbel9; generalize w5.heap.size = G17 at *) | (refine ld24 rfl (.tmp 4) rfl w.heap.size rfl la D18.out LA.out ?_) | (refine ld24 rfl (.tmp 5) rfl (w.heap.size + 1) rfl lb D19.out LB.out ?_))
 refine (HA.out _).mono ?_
 rintro e w23 ⟨rfl, hbw23⟩
 have C24 := Hd (D18.out.below' hbw23)
 have C25 := Hd (D19.out.below' hbw23)
 have C26 := Hd (D20.out.below' hbw23)
 have C27 := Hd (D21.out.below' hbw23)
 have hbel28 := hbel22.trans (hbw23.mono hbel22.size)
 have Z30 := Hd (Blk.new w23 24 (natsV .u64 (zeros 4)))
 have hz31 := Hd (below_setRow' (hbel28.alloc hbel28.size (.cells (natsV .u64 (zeros 4)).toArray 24)) hbel28.size (natsV .u64 ls).toArray)
 have Y32 := Hd ((C26.out.alloc (.cells (natsV .u64 (zeros 4)).toArray 24)).row (natsV .u64 ls).toArray (Nat.ne_of_lt C26.out.lt))
 have Y33 := Hd ((C27.out.alloc (.cells (natsV .u64 (zeros 4)).toArray 24)).row (natsV .u64 ls).toArray (Nat.ne_of_lt C27.out.lt))
 have Y34 := Hd (Z30.out.setRow (natsV .u64 ls))
 clear D18 D19 D20 D21 hbw23 hbel22 C24 C25
 go_wp2_with (first | (refine st24 rfl (.tmp 10) (.tmp 28) rfl w23.heap.size rfl ls rfl LS.out (zeros 4) Z30.out rfl ?_; generalize hW : World.setRow _ _ _ = w29; have D36 := Hd (show Blk w29 (w.heap.size + 1 + 1) 24 (natsV .u64 (zeros 4)) from (by rw [← hW]; exact Y32.out)); have D37 := Hd (show Blk w29 G17 82 ((primL lm f)) from (by rw [← hW]; exact Y33.out)); have D38 := Hd (show Blk w29 w23.heap.size 24 (natsV .u64 ls) from (by rw [← hW]; exact Y34.out)); have LE_D38 := (hbel28).size; have NE_D37 := Nat.ne_of_lt C27.out.lt; have hbel39 : Below w.heap.size w w29 := (by rw [← hW]; exact hz31.out); clear hW Z30 hz31 C26 C27 Y32 Y33 Y34 hbel28; generalize w23.heap.size = G35 at *) | (refine ld83 rfl (.tmp 8) rfl G17 rfl (primL lm f) D37.out LP.out.1 ?_) | (refine ld24 rfl (.tmp 10) rfl G35 rfl ls D38.out LS.out ?_))
 refine (HB.out _).mono ?_
 rintro e w40 ⟨rfl, hbw40⟩
 have C41 := Hd (D36.out.below' hbw40)
 have C42 := Hd (D37.out.below' hbw40)
 have C43 := Hd (D38.out.below' hbw40)
 have hbel44 := hbel39.trans (hbw40.mono hbel39.size)
 clear D36 D37 D38 hbw40 hbel39
 go_wp2_with (first | (refine st24 rfl (.tmp 6) (.tmp 33) rfl (w.heap.size + 1 + 1) rfl lr rfl LR.out (zeros 4) C41.out rfl ?_))
 refine bodyPost_ret (v := .tuple #[.agg (natsV .u64 lr).toArray, .int .i64 0]) ?_ rfl ⟨rfl, below_setRow' hbel44 (by first | exact Nat.le_refl _ | omega) _⟩
 exact ret24x Try.results80 _ _ (w.heap.size + 1 + 1) lr _ rfl rfl (C41.out.setRow _) LR.out
theorem In_ok (k : Int) (m f v : Nat) (a : Nat) (w : World) (h : Wh k m f v) (ha : a < 2 ^ 256) :
   Calls Try.prog 26 #[.int .i64 k, .agg (natsV .u64 (wds 4 a)).toArray] w fun e w' => e = .returned (.tuple #[.agg (natsV .u64 (wds 4 (toF m a))).toArray, .int .i64 0]) ∧ Below w.heap.size w w' := by
 have HP := Hd (fun w => primeFor_0 k m f v w h)
 have HC := Hd (fun w => in_any m f v a w h.fld ha)
 have LM := Hd (wds_len 4 m)
 have LR := Hd (wds_len 4 (toF m a))
 have LP := Hd (primL_ok (wds 4 m) f (wds_len 4 m))
 generalize wds 4 (toF m a) = lr at *
 generalize wds 4 m = lm at *
 have LA := Hd (wds_len 4 a)
 clear h ha
 generalize wds 4 a = la at *
 have B1 := Hd ((Blk.new w 24 (natsV .u64 la)).alloc (.cells (natsV .u64 (zeros 4)).toArray 24))
 have B2 := Hd (Blk.new2 w (.cells (natsV .u64 la).toArray 24) 24 (natsV .u64 (zeros 4)))
 have BEL := Hd (((Below.refl w.heap.size w).alloc (Nat.le_refl _) (.cells (natsV .u64 la).toArray 24)).alloc (by simp) (.cells (natsV .u64 (zeros 4)).toArray 24))
 go_enter Try.func26, Try.ntmps26
 go_wp2_with fail
 refine (HP.out _).mono ?_
 rintro e w1 ⟨rfl, hbw1⟩
 have C2 := Hd (B1.out.below' hbw1)
 have C3 := Hd (B2.out.below' hbw1)
 have hbel4 := BEL.out.trans (hbw1.mono BEL.out.size)
 have Z6 := Hd (Blk.new w1 82 ((primL (zeros 4) 0)))
 have hz7 := Hd (below_setRow' (hbel4.alloc hbel4.size (.cells ((primL (zeros 4) 0)).toArray 82)) hbel4.size ((primL lm f)).toArray)
 have Y8 := Hd ((C2.out.alloc (.cells ((primL (zeros 4) 0)).toArray 82)).row ((primL lm f)).toArray (Nat.ne_of_lt C2.out.lt))
 have Y9 := Hd ((C3.out.alloc (.cells ((primL (zeros 4) 0)).toArray 82)).row ((primL lm f)).toArray (Nat.ne_of_lt C3.out.lt))
 have Y10 := Hd (Z6.out.setRow ((primL lm f)))
 clear B1 B2 hbw1
 go_wp2_with (first | (refine st83 rfl (.tmp 6) (.tmp 11) rfl w1.heap.size rfl (primL lm f) rfl LP.out (primL (zeros 4) 0) Z6.out rfl ?_; generalize hW : World.setRow _ _ _ = w5; have D12 := Hd (show Blk w5 w.heap.size 24 (natsV .u64 la) from (by rw [← hW]; exact Y8.out)); have D13 := Hd (show Blk w5 (w.heap.size + 1) 24 (natsV .u64 (zeros 4)) from (by rw [← hW]; exact Y9.out)); have D14 := Hd (show Blk w5 w1.heap.size 82 ((primL lm f)) from (by rw [← hW]; exact Y10.out)); have LE_D14 := (hbel4).size; have NE_D13 := Nat.ne_of_lt C3.out.lt; have hbel15 : Below w.heap.size w w5 := (by rw [← hW]; exact hz7.out); clear hW Z6 hz7 C2 C3 Y8 Y9 Y10 hbel4; generalize w1.heap.size = G11 at *) | (refine ld83 rfl (.tmp 6) rfl G11 rfl (primL lm f) D14.out LP.out.1 ?_) | (refine ld24 rfl (.tmp 3) rfl w.heap.size rfl la D12.out LA.out ?_))
 refine (HC.out _).mono ?_
 rintro e w16 ⟨rfl, hbw16⟩
 have C17 := Hd (D12.out.below' hbw16)
 have C18 := Hd (D13.out.below' hbw16)
 have C19 := Hd (D14.out.below' hbw16)
 have hbel20 := hbel15.trans (hbw16.mono hbel15.size)
 clear D12 D13 D14 hbw16 hbel15
 go_wp2_with (first | (refine st24 rfl (.tmp 4) (.tmp 19) rfl (w.heap.size + 1) rfl lr rfl LR.out (zeros 4) C18.out rfl ?_))
 refine bodyPost_ret (v := .tuple #[.agg (natsV .u64 lr).toArray, .int .i64 0]) ?_ rfl ⟨rfl, below_setRow' hbel20 (by first | exact Nat.le_refl _ | omega) _⟩
 exact ret24x Try.results26 _ _ (w.heap.size + 1) lr _ rfl rfl (C18.out.setRow _) LR.out
theorem Modulus_ok (k : Int) (m f v : Nat) (w : World) (h : Wh k m f v) :
   Calls Try.prog 46 #[.int .i64 k] w fun e w' => e = .returned (.tuple #[.agg (natsV .u64 (wds 4 m)).toArray, .int .i64 0]) ∧ Below w.heap.size w w' := by
 have HP := Hd (fun w => primeFor_0 k m f v w h)
 have LM := Hd (wds_len 4 m)
 have LP := Hd (primL_ok (wds 4 m) f (wds_len 4 m))
 generalize wds 4 m = lm at *
 have B1 := Hd (Blk.new w 24 (natsV .u64 (zeros 4)))
 have BEL := Hd ((Below.refl w.heap.size w).alloc (Nat.le_refl _) (.cells (natsV .u64 (zeros 4)).toArray 24))
 clear h
 go_enter Try.func46, Try.ntmps46
 go_wp2_with fail
 refine (HP.out _).mono ?_
 rintro e w1 ⟨rfl, hbw1⟩
 have C2 := Hd (B1.out.below' hbw1)
 have hbel3 := BEL.out.trans (hbw1.mono BEL.out.size)
 have Z5 := Hd (Blk.new w1 82 ((primL (zeros 4) 0)))
 have hz6 := Hd (below_setRow' (hbel3.alloc hbel3.size (.cells ((primL (zeros 4) 0)).toArray 82)) hbel3.size ((primL lm f)).toArray)
 have Y7 := Hd ((C2.out.alloc (.cells ((primL (zeros 4) 0)).toArray 82)).row ((primL lm f)).toArray (Nat.ne_of_lt C2.out.lt))
 have Y8 := Hd (Z5.out.setRow ((primL lm f)))
 clear B1 hbw1
 go_wp2_with (first | (refine st83 rfl (.tmp 4) (.tmp 9) rfl w1.heap.size rfl (primL lm f) rfl LP.out (primL (zeros 4) 0) Z5.out rfl ?_; generalize hW : World.setRow _ _ _ = w4; have D10 := Hd (show Blk w4 w.heap.size 24 (natsV .u64 (zeros 4)) from (by rw [← hW]; exact Y7.out)); have D11 := Hd (show Blk w4 w1.heap.size 82 ((primL lm f)) from (by rw [← hW]; exact Y8.out)); have LE_D11 := (hbel3).size; have NE_D10 := Nat.ne_of_lt C2.out.lt; have hbel12 : Below w.heap.size w w4 := (by rw [← hW]; exact hz6.out); clear hW Z5 hz6 C2 Y7 Y8 hbel3; generalize w1.heap.size = G9 at *) | (refine ldm rfl (.tmp 11) rfl G9 rfl lm _ D11.out LM.out ?_) | (refine st24 rfl (.tmp 2) (.tmp 12) rfl w.heap.size rfl lm rfl LM.out (zeros 4) D10.out rfl ?_))
 refine bodyPost_ret (v := .tuple #[.agg (natsV .u64 lm).toArray, .int .i64 0]) ?_ rfl ⟨rfl, below_setRow' hbel12 (by first | exact Nat.le_refl _ | omega) _⟩
 exact ret24x Try.results46 _ _ w.heap.size lm _ rfl rfl (D10.out.setRow _) LM.out
end Go.Proofs.Ytdkkombpkojjaaa
