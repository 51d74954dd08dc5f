/- FieldPowers answers true for any number, any power and any choice of prime. No condition but 256 bits. -/
import Derived.Test.YtfaoajljaggklaaFPa
namespace Go.Proofs.Ytfaoajljaggklaa
open Go.RowKit
set_option linter.unusedVariables false
set_option linter.unusedSimpArgs false
set_option maxRecDepth 100000 in
set_option maxHeartbeats 1600000 in
theorem powers5_ok (k : Int) (m f v : Nat) (a b : Nat) (w : World) (ha : a < 2 ^ 256) (hb : b < 2 ^ 256) (h : Wh k m f v) (hc : a < m) (h0 : a ≠ 0) :
    Calls Try.prog 7 #[.int .i64 k, .agg (natsV .u64 (wds 4 a)).toArray, .agg (natsV .u64 (wds 4 b)).toArray] w fun e w' => e = .returned (.bool true) ∧ Below w.heap.size w w' := by
  have H := h.fld
  have hm := H.lt
  have hgt := H.gt
  have hpos := H.pos
  have HP := Lib.hid (fun w => DPrime_ok k m f v w h)
  have HL := Lib.hid (fun w => Less_any a m w ha hm)
  have PO := pok_1 k m f v a h hc
  rw [decide_eq_true hc] at HL
  have HPO := Lib.hid (fun w => Pow_ok k m f v a b w H hc hb PO)
  have HPL := Lib.hid (fun w => Plain_any a m f v w H hc)
  have HDP := Lib.hid (fun w => Pow5_any (ofF m v a) b m w (Nat.lt_trans (ofF_lt H a) hm) hb hm hgt)
  have HFO := Lib.hid (fun w => Form_any (ofF m v a ^ b % m) m f v w H (Nat.mod_lt _ hpos))
  rw [toF_mod] at HFO
  have QZ := Lib.hid (fun w => show (binOp .eql 24 (.agg (natsV .u64 (wds 4 a)).toArray) (.agg (natsV .u64 (zeros 4)).toArray)).run Try.prog w = .ok (.bool (decide (a = 0))) w from eqZ a ha w)
  rw [decide_eq_false h0] at QZ
  have HIV := Lib.hid (fun w => Inv_ok k m f v a w H hc h0 PO)
  have HL2 := Lib.hid (fun w => Less_any (toF m (ofF m v a ^ (m - 2))) m w (Nat.lt_trans (toF_lt H _) hm) hm)
  rw [decide_eq_true (toF_lt H _)] at HL2
  have HPY := Lib.hid (fun w => Plain_any (toF m (ofF m v a ^ (m - 2))) m f v w H (toF_lt H _))
  rw [H.of_to] at HPY
  have HMU := Lib.hid (fun w => Mul5_any (ofF m v a) (ofF m v a ^ (m - 2) % m) m w (Nat.lt_trans (ofF_lt H a) hm) (Nat.lt_trans (Nat.mod_lt _ hpos) hm) hm hgt)
  rw [H.inv_is hc h0] at HMU
  have Q1 := Lib.hid one_lit
  have LY := Lib.hid (wds_len 4 (toF m (ofF m v a ^ (m - 2))))
  generalize wds 4 (toF m (ofF m v a ^ (m - 2))) = lY at *
  generalize wds 4 (ofF m v a ^ (m - 2) % m) = lV at *
  generalize wds 4 1 = l1 at *
  have LX := Lib.hid (wds_len 4 (toF m (ofF m v a ^ b)))
  have LU := Lib.hid (wds_len 4 (ofF m v a))
  generalize wds 4 (toF m (ofF m v a ^ b)) = lX at *
  generalize wds 4 (ofF m v a ^ b % m) = lW at *
  generalize wds 4 (ofF m v a) = lU at *
  clear PO
  have LM := Lib.hid (wds_len 4 m)
  generalize wds 4 m = lm at *
  clear h H hm hgt hpos hc h0
  have LA := Lib.hid (wds_len 4 a)
  have LB := Lib.hid (wds_len 4 b)
  generalize wds 4 a = la at *
  generalize wds 4 b = lb at *
  clear ha hb
  have i24a : (Try.prog.info? 24).map (·.size) = some (natsV .u64 la).length := by rw [info24, natsV_length, LA.out]
  have i24b : (Try.prog.info? 24).map (·.size) = some (natsV .u64 lb).length := by rw [info24, natsV_length, LB.out]
  have i24m : (Try.prog.info? 24).map (·.size) = some (natsV .u64 lm).length := by rw [info24, natsV_length, LM.out]
  have i24x : (Try.prog.info? 24).map (·.size) = some (natsV .u64 lX).length := by rw [info24, natsV_length, LX.out]
  have i24u : (Try.prog.info? 24).map (·.size) = some (natsV .u64 lU).length := by rw [info24, natsV_length, LU.out]
  have i24y : (Try.prog.info? 24).map (·.size) = some (natsV .u64 lY).length := by rw [info24, natsV_length, LY.out]
  have B1 := Lib.hid ((Blk.new w 24 (natsV .u64 la)).alloc (.cells (natsV .u64 lb).toArray 24))
  have B2 := Lib.hid (Blk.new2 w (.cells (natsV .u64 la).toArray 24) 24 (natsV .u64 lb))
  have BEL := Lib.hid (((Below.refl w.heap.size w).alloc (Nat.le_refl _) (.cells (natsV .u64 la).toArray 24)).alloc (by simp) (.cells (natsV .u64 lb).toArray 24))
  go_enter Try.func7, Try.ntmps7
  go_wp2_with fail
  refine (fawake_any _).mono ?_
  rintro e w1 ⟨rfl, hbw1⟩
  have C2 := Lib.hid (B1.out.below' hbw1)
  have C3 := Lib.hid (B2.out.below' hbw1)
  have hbel4 := BEL.out.trans (hbw1.mono BEL.out.size)
  clear B1 B2 hbw1
  go_wp2_with fail
  refine (HP.out _).mono ?_
  rintro e w5 ⟨rfl, hbw5⟩
  have C6 := Lib.hid (C2.out.below' hbw5)
  have C7 := Lib.hid (C3.out.below' hbw5)
  have hbel8 := hbel4.trans (hbw5.mono hbel4.size)
  clear C2 C3 hbw5 hbel4
  have Z10 := Lib.hid (Blk.new w5 24 (natsV .u64 (zeros 4)))
  have hz11 := Lib.hid (below_setRow' (hbel8.alloc hbel8.size (.cells (natsV .u64 (zeros 4)).toArray 24)) hbel8.size (natsV .u64 lm).toArray)
  have Y12 := Lib.hid ((C6.out.alloc (.cells (natsV .u64 (zeros 4)).toArray 24)).row (natsV .u64 lm).toArray (Nat.ne_of_lt C6.out.lt))
  have Y13 := Lib.hid ((C7.out.alloc (.cells (natsV .u64 (zeros 4)).toArray 24)).row (natsV .u64 lm).toArray (Nat.ne_of_lt C7.out.lt))
  have Y14 := Lib.hid (Z10.out.setRow (natsV .u64 lm))
  go_wp2_with (first | (refine st24 rfl (.tmp 8) (.tmp 23) rfl w5.heap.size rfl lm rfl LM.out (zeros 4) Z10.out rfl ?_; generalize hW : World.setRow _ _ _ = w9; have D16 := Lib.hid (show Blk w9 w.heap.size 24 (natsV .u64 la) from (by rw [← hW]; exact Y12.out)); have D17 := Lib.hid (show Blk w9 (w.heap.size + 1) 24 (natsV .u64 lb) from (by rw [← hW]; exact Y13.out)); have D18 := Lib.hid (show Blk w9 w5.heap.size 24 (natsV .u64 lm) from (by rw [← hW]; exact Y14.out)); have LE_D18 := (hbel8).size; have NE_D16 := Nat.ne_of_lt C6.out.lt; have NE_D17 := Nat.ne_of_lt C7.out.lt; have hbel19 : Below w.heap.size w w9 := (by rw [← hW]; exact hz11.out); clear hW Z10 hz11 C6 C7 Y12 Y13 Y14 hbel8; generalize w5.heap.size = G15 at *) | (refine ld24 rfl (.tmp 4) rfl w.heap.size rfl la D16.out LA.out ?_) | (refine ld24 rfl (.tmp 5) rfl (w.heap.size + 1) rfl lb D17.out LB.out ?_))
  refine (HPO.out _).mono ?_
  rintro e w20 ⟨rfl, hbw20⟩
  have C21 := Lib.hid (D16.out.below' hbw20)
  have C22 := Lib.hid (D17.out.below' hbw20)
  have C23 := Lib.hid (D18.out.below' hbw20)
  have hbel24 := hbel19.trans (hbw20.mono hbel19.size)
  clear D16 D17 D18 hbw20 hbel19
  have Z26 := Lib.hid (Blk.new w20 24 (natsV .u64 (zeros 4)))
  have hz27 := Lib.hid (below_setRow' (hbel24.alloc hbel24.size (.cells (natsV .u64 (zeros 4)).toArray 24)) hbel24.size (natsV .u64 lX).toArray)
  have Y28 := Lib.hid ((C21.out.alloc (.cells (natsV .u64 (zeros 4)).toArray 24)).row (natsV .u64 lX).toArray (Nat.ne_of_lt C21.out.lt))
  have Y29 := Lib.hid ((C22.out.alloc (.cells (natsV .u64 (zeros 4)).toArray 24)).row (natsV .u64 lX).toArray (Nat.ne_of_lt C22.out.lt))
  have Y30 := Lib.hid ((C23.out.alloc (.cells (natsV .u64 (zeros 4)).toArray 24)).row (natsV .u64 lX).toArray (Nat.ne_of_lt C23.out.lt))
  have Y31 := Lib.hid (Z26.out.setRow (natsV .u64 lX))
  go_wp2_with (first | (refine st24 rfl (.tmp 10) (.tmp 30) rfl w20.heap.size rfl lX rfl LX.out (zeros 4) Z26.out rfl ?_; generalize hW : World.setRow _ _ _ = w25; have D33 := Lib.hid (show Blk w25 w.heap.size 24 (natsV .u64 la) from (by rw [← hW]; exact Y28.out)); have D34 := Lib.hid (show Blk w25 (w.heap.size + 1) 24 (natsV .u64 lb) from (by rw [← hW]; exact Y29.out)); have D35 := Lib.hid (show Blk w25 G15 24 (natsV .u64 lm) from (by rw [← hW]; exact Y30.out)); have D36 := Lib.hid (show Blk w25 w20.heap.size 24 (natsV .u64 lX) from (by rw [← hW]; exact Y31.out)); have LE_D36 := (hbel24).size; have NE_D33 := Nat.ne_of_lt C21.out.lt; have NE_D34 := Nat.ne_of_lt C22.out.lt; have NE_D35 := Nat.ne_of_lt C23.out.lt; have hbel37 : Below w.heap.size w w25 := (by rw [← hW]; exact hz27.out); clear hW Z26 hz27 C21 C22 C23 Y28 Y29 Y30 Y31 hbel24; generalize w20.heap.size = G32 at *) | (refine ld24 rfl (.tmp 4) rfl w.heap.size rfl la D33.out LA.out ?_))
  refine (HIV.out _).mono ?_
  rintro e w38 ⟨rfl, hbw38⟩
  have C39 := Lib.hid (D33.out.below' hbw38)
  have C40 := Lib.hid (D34.out.below' hbw38)
  have C41 := Lib.hid (D35.out.below' hbw38)
  have C42 := Lib.hid (D36.out.below' hbw38)
  have hbel43 := hbel37.trans (hbw38.mono hbel37.size)
  clear D33 D34 D35 D36 hbw38 hbel37
  have Z45 := Lib.hid (Blk.new w38 24 (natsV .u64 (zeros 4)))
  have hz46 := Lib.hid (below_setRow' (hbel43.alloc hbel43.size (.cells (natsV .u64 (zeros 4)).toArray 24)) hbel43.size (natsV .u64 lY).toArray)
  have Y47 := Lib.hid ((C39.out.alloc (.cells (natsV .u64 (zeros 4)).toArray 24)).row (natsV .u64 lY).toArray (Nat.ne_of_lt C39.out.lt))
  have Y48 := Lib.hid ((C40.out.alloc (.cells (natsV .u64 (zeros 4)).toArray 24)).row (natsV .u64 lY).toArray (Nat.ne_of_lt C40.out.lt))
  have Y49 := Lib.hid ((C41.out.alloc (.cells (natsV .u64 (zeros 4)).toArray 24)).row (natsV .u64 lY).toArray (Nat.ne_of_lt C41.out.lt))
  have Y50 := Lib.hid ((C42.out.alloc (.cells (natsV .u64 (zeros 4)).toArray 24)).row (natsV .u64 lY).toArray (Nat.ne_of_lt C42.out.lt))
  have Y51 := Lib.hid (Z45.out.setRow (natsV .u64 lY))
  go_wp2_with (first | (refine st24 rfl (.tmp 12) (.tmp 36) rfl w38.heap.size rfl lY rfl LY.out (zeros 4) Z45.out rfl ?_; generalize hW : World.setRow _ _ _ = w44; have D53 := Lib.hid (show Blk w44 w.heap.size 24 (natsV .u64 la) from (by rw [← hW]; exact Y47.out)); have D54 := Lib.hid (show Blk w44 (w.heap.size + 1) 24 (natsV .u64 lb) from (by rw [← hW]; exact Y48.out)); have D55 := Lib.hid (show Blk w44 G15 24 (natsV .u64 lm) from (by rw [← hW]; exact Y49.out)); have D56 := Lib.hid (show Blk w44 G32 24 (natsV .u64 lX) from (by rw [← hW]; exact Y50.out)); have D57 := Lib.hid (show Blk w44 w38.heap.size 24 (natsV .u64 lY) from (by rw [← hW]; exact Y51.out)); have LE_D57 := (hbel43).size; have NE_D53 := Nat.ne_of_lt C39.out.lt; have NE_D54 := Nat.ne_of_lt C40.out.lt; have NE_D55 := Nat.ne_of_lt C41.out.lt; have NE_D56 := Nat.ne_of_lt C42.out.lt; have hbel58 : Below w.heap.size w w44 := (by rw [← hW]; exact hz46.out); clear hW Z45 hz46 C39 C40 C41 C42 Y47 Y48 Y49 Y50 Y51 hbel43; generalize w38.heap.size = G52 at *) | (refine ld24 rfl (.tmp 4) rfl w.heap.size rfl la D53.out LA.out ?_) | (refine ld24 rfl (.tmp 8) rfl G15 rfl lm D55.out LM.out ?_))
  refine (HL.out _).mono ?_
  rintro e w59 ⟨rfl, hbw59⟩
  have C60 := Lib.hid (D53.out.below' hbw59)
  have C61 := Lib.hid (D54.out.below' hbw59)
  have C62 := Lib.hid (D55.out.below' hbw59)
  have C63 := Lib.hid (D56.out.below' hbw59)
  have C64 := Lib.hid (D57.out.below' hbw59)
  have hbel65 := hbel58.trans (hbw59.mono hbel58.size)
  clear D53 D54 D55 D56 D57 hbw59 hbel58
  as_aux_lemma =>
  have Z67 := Lib.hid (Blk.new w59 24 (natsV .u64 (zeros 4)))
  have hz68 := Lib.hid (below_setRow' (hbel65.alloc hbel65.size (.cells (natsV .u64 (zeros 4)).toArray 24)) hbel65.size (natsV .u64 (zeros 4)).toArray)
  have Y69 := Lib.hid ((C60.out.alloc (.cells (natsV .u64 (zeros 4)).toArray 24)).row (natsV .u64 (zeros 4)).toArray (Nat.ne_of_lt C60.out.lt))
  have Y70 := Lib.hid ((C61.out.alloc (.cells (natsV .u64 (zeros 4)).toArray 24)).row (natsV .u64 (zeros 4)).toArray (Nat.ne_of_lt C61.out.lt))
  have Y71 := Lib.hid ((C62.out.alloc (.cells (natsV .u64 (zeros 4)).toArray 24)).row (natsV .u64 (zeros 4)).toArray (Nat.ne_of_lt C62.out.lt))
  have Y72 := Lib.hid ((C63.out.alloc (.cells (natsV .u64 (zeros 4)).toArray 24)).row (natsV .u64 (zeros 4)).toArray (Nat.ne_of_lt C63.out.lt))
  have Y73 := Lib.hid ((C64.out.alloc (.cells (natsV .u64 (zeros 4)).toArray 24)).row (natsV .u64 (zeros 4)).toArray (Nat.ne_of_lt C64.out.lt))
  have Y74 := Lib.hid (Z67.out.setRow (natsV .u64 (zeros 4)))
  go_wp2_with (first | (refine st24 rfl (.tmp 16) (.tmp 45) rfl w59.heap.size rfl (zeros 4) (num_lit0.trans (by rw [num_zero])) rfl (zeros 4) Z67.out rfl ?_; generalize hW : World.setRow _ _ _ = w66; have D76 := Lib.hid (show Blk w66 w.heap.size 24 (natsV .u64 la) from (by rw [← hW]; exact Y69.out)); have D77 := Lib.hid (show Blk w66 (w.heap.size + 1) 24 (natsV .u64 lb) from (by rw [← hW]; exact Y70.out)); have D78 := Lib.hid (show Blk w66 G15 24 (natsV .u64 lm) from (by rw [← hW]; exact Y71.out)); have D79 := Lib.hid (show Blk w66 G32 24 (natsV .u64 lX) from (by rw [← hW]; exact Y72.out)); have D80 := Lib.hid (show Blk w66 G52 24 (natsV .u64 lY) from (by rw [← hW]; exact Y73.out)); have D81 := Lib.hid (show Blk w66 w59.heap.size 24 (natsV .u64 (zeros 4)) from (by rw [← hW]; exact Y74.out)); have LE_D81 := (hbel65).size; have NE_D76 := Nat.ne_of_lt C60.out.lt; have NE_D77 := Nat.ne_of_lt C61.out.lt; have NE_D78 := Nat.ne_of_lt C62.out.lt; have NE_D79 := Nat.ne_of_lt C63.out.lt; have NE_D80 := Nat.ne_of_lt C64.out.lt; have hbel82 : Below w.heap.size w w66 := (by rw [← hW]; exact hz68.out); clear hW Z67 hz68 C60 C61 C62 C63 C64 Y69 Y70 Y71 Y72 Y73 Y74 hbel65; generalize w59.heap.size = G75 at *) | (refine ld24 rfl (.tmp 4) rfl w.heap.size rfl la D76.out LA.out ?_) | (refine ld24 rfl (.tmp 8) rfl G15 rfl lm D78.out LM.out ?_))
  refine (HPL.out _).mono ?_
  rintro e w83 ⟨rfl, hbw83⟩
  have C84 := Lib.hid (D76.out.below' hbw83)
  have C85 := Lib.hid (D77.out.below' hbw83)
  have C86 := Lib.hid (D78.out.below' hbw83)
  have C87 := Lib.hid (D79.out.below' hbw83)
  have C88 := Lib.hid (D80.out.below' hbw83)
  have C89 := Lib.hid (D81.out.below' hbw83)
  have hbel90 := hbel82.trans (hbw83.mono hbel82.size)
  clear D76 D77 D78 D79 D80 D81 hbw83 hbel82
  have Z92 := Lib.hid (Blk.new w83 24 (natsV .u64 (zeros 4)))
  have hz93 := Lib.hid (below_setRow' (hbel90.alloc hbel90.size (.cells (natsV .u64 (zeros 4)).toArray 24)) hbel90.size (natsV .u64 lU).toArray)
  have Y94 := Lib.hid ((C84.out.alloc (.cells (natsV .u64 (zeros 4)).toArray 24)).row (natsV .u64 lU).toArray (Nat.ne_of_lt C84.out.lt))
  have Y95 := Lib.hid ((C85.out.alloc (.cells (natsV .u64 (zeros 4)).toArray 24)).row (natsV .u64 lU).toArray (Nat.ne_of_lt C85.out.lt))
  have Y96 := Lib.hid ((C86.out.alloc (.cells (natsV .u64 (zeros 4)).toArray 24)).row (natsV .u64 lU).toArray (Nat.ne_of_lt C86.out.lt))
  have Y97 := Lib.hid ((C87.out.alloc (.cells (natsV .u64 (zeros 4)).toArray 24)).row (natsV .u64 lU).toArray (Nat.ne_of_lt C87.out.lt))
  have Y98 := Lib.hid ((C88.out.alloc (.cells (natsV .u64 (zeros 4)).toArray 24)).row (natsV .u64 lU).toArray (Nat.ne_of_lt C88.out.lt))
  have Y99 := Lib.hid ((C89.out.alloc (.cells (natsV .u64 (zeros 4)).toArray 24)).row (natsV .u64 lU).toArray (Nat.ne_of_lt C89.out.lt))
  have Y100 := Lib.hid (Z92.out.setRow (natsV .u64 lU))
  go_wp2_with (first | (refine st24 rfl (.tmp 17) (.tmp 71) rfl w83.heap.size rfl lU rfl LU.out (zeros 4) Z92.out rfl ?_; generalize hW : World.setRow _ _ _ = w91; have D102 := Lib.hid (show Blk w91 w.heap.size 24 (natsV .u64 la) from (by rw [← hW]; exact Y94.out)); have D103 := Lib.hid (show Blk w91 (w.heap.size + 1) 24 (natsV .u64 lb) from (by rw [← hW]; exact Y95.out)); have D104 := Lib.hid (show Blk w91 G15 24 (natsV .u64 lm) from (by rw [← hW]; exact Y96.out)); have D105 := Lib.hid (show Blk w91 G32 24 (natsV .u64 lX) from (by rw [← hW]; exact Y97.out)); have D106 := Lib.hid (show Blk w91 G52 24 (natsV .u64 lY) from (by rw [← hW]; exact Y98.out)); have D107 := Lib.hid (show Blk w91 G75 24 (natsV .u64 (zeros 4)) from (by rw [← hW]; exact Y99.out)); have D108 := Lib.hid (show Blk w91 w83.heap.size 24 (natsV .u64 lU) from (by rw [← hW]; exact Y100.out)); have LE_D108 := (hbel90).size; have NE_D102 := Nat.ne_of_lt C84.out.lt; have NE_D103 := Nat.ne_of_lt C85.out.lt; have NE_D104 := Nat.ne_of_lt C86.out.lt; have NE_D105 := Nat.ne_of_lt C87.out.lt; have NE_D106 := Nat.ne_of_lt C88.out.lt; have NE_D107 := Nat.ne_of_lt C89.out.lt; have hbel109 : Below w.heap.size w w91 := (by rw [← hW]; exact hz93.out); clear hW Z92 hz93 C84 C85 C86 C87 C88 C89 Y94 Y95 Y96 Y97 Y98 Y99 Y100 hbel90; generalize w83.heap.size = G101 at *))
  as_aux_lemma =>
  refine wp_region_held_drew (S := (fun w' => w'.rangeAt G32 0 (natsV .u64 lX) ∧ w'.rangeAt G101 0 (natsV .u64 lU) ∧ w'.rangeAt (w.heap.size + 1) 0 (natsV .u64 lb) ∧ w'.rangeAt G15 0 (natsV .u64 lm))) (by kernel_rfl) ⟨blk_rangeV D105.out.drew, blk_rangeV D108.out.drew, blk_rangeV D103.out.drew, blk_rangeV D104.out.drew⟩ (fun hHeld => ?_)
  refine wpAnyH_take (i := 0) (oi := _) (v := _) rfl (by kernel_rfl) (by kernel_rfl) (by kernel_rfl) (fun _ _ _ h => h) (Or.inl ⟨by rfl, by intro w hSw; (try dsimp only at hSw); go_simp; first | done | with_reducible rfl⟩) hHeld ?_
  try simp only [Act.put, List.getElem_toArray, List.getElem_cons_succ, List.getElem_cons_zero, List.setIfInBounds_toArray, List.set_cons_zero, List.set_cons_succ]
  refine wpAnyH_take (i := 1) (oi := _) (v := _) rfl (by kernel_rfl) (by kernel_rfl) (by kernel_rfl) (fun _ _ _ h => h) (Or.inl ⟨by rfl, by intro w hSw; (try dsimp only at hSw); go_simp; first | done | with_reducible rfl⟩) hHeld ?_
  try simp only [Act.put, List.getElem_toArray, List.getElem_cons_succ, List.getElem_cons_zero, List.setIfInBounds_toArray, List.set_cons_zero, List.set_cons_succ]
  refine wpAnyH_take (i := 2) (oi := _) (v := _) rfl (by kernel_rfl) (by kernel_rfl) (by kernel_rfl) (fun _ _ _ h => h) (Or.inl ⟨by rfl, by intro w hSw; (try dsimp only at hSw); go_simp; first | done | with_reducible rfl⟩) hHeld ?_
  try simp only [Act.put, List.getElem_toArray, List.getElem_cons_succ, List.getElem_cons_zero, List.setIfInBounds_toArray, List.set_cons_zero, List.set_cons_succ]
  refine wpAnyH_take (i := 3) (oi := _) (v := _) rfl (by kernel_rfl) (by kernel_rfl) (by kernel_rfl) (fun _ _ _ h => h) (Or.inl ⟨by rfl, by intro w hSw; (try dsimp only at hSw); go_simp; first | done | with_reducible rfl⟩) hHeld ?_
  try simp only [Act.put, List.getElem_toArray, List.getElem_cons_succ, List.getElem_cons_zero, List.setIfInBounds_toArray, List.set_cons_zero, List.set_cons_succ]
  refine wpAnyH_take (i := 4) (oi := _) (v := _) rfl (by kernel_rfl) (by kernel_rfl) (by kernel_rfl) (fun _ _ _ h => h) (Or.inl ⟨by rfl, by intro w hSw; (try dsimp only at hSw); go_simp; first | done | with_reducible rfl⟩) hHeld ?_
  try simp only [Act.put, List.getElem_toArray, List.getElem_cons_succ, List.getElem_cons_zero, List.setIfInBounds_toArray, List.set_cons_zero, List.set_cons_succ]
  refine wpAnyH_take (i := 5) (oi := _) (v := _) rfl (by kernel_rfl) (by kernel_rfl) (by kernel_rfl) (fun _ _ _ h => h) (Or.inl ⟨by rfl, by intro w hSw; (try dsimp only at hSw); go_simp; first | done | with_reducible rfl⟩) hHeld ?_
  try simp only [Act.put, List.getElem_toArray, List.getElem_cons_succ, List.getElem_cons_zero, List.setIfInBounds_toArray, List.set_cons_zero, List.set_cons_succ]
  refine wpAnyH_take (i := 6) (oi := _) (v := _) rfl (by kernel_rfl) (by kernel_rfl) (by kernel_rfl) (fun _ _ _ h => h) (Or.inl ⟨by rfl, by intro w hSw; (try dsimp only at hSw); go_simp; first | done | with_reducible rfl⟩) hHeld ?_
  try simp only [Act.put, List.getElem_toArray, List.getElem_cons_succ, List.getElem_cons_zero, List.setIfInBounds_toArray, List.set_cons_zero, List.set_cons_succ]
  refine wpAnyH_take (i := 7) (oi := _) (v := _) rfl (by kernel_rfl) (by kernel_rfl) (by kernel_rfl) (fun _ _ _ h => h) (yieldsIf_load_mid (by rfl) _ _ rfl _ _ rfl _ _ (by intro w hSw; exact hSw.1) Try.underlying24 rfl i24x) hHeld ?_
  try simp only [Act.put, List.getElem_toArray, List.getElem_cons_succ, List.getElem_cons_zero, List.setIfInBounds_toArray, List.set_cons_zero, List.set_cons_succ]
  refine wpAnyH_take (i := 8) (oi := _) (v := _) rfl (by kernel_rfl) (by kernel_rfl) (by kernel_rfl) (fun _ _ _ h => h) (yieldsIf_load_mid (by rfl) _ _ rfl _ _ rfl _ _ (by intro w hSw; exact hSw.2.1) Try.underlying24 rfl i24u) hHeld ?_
  try simp only [Act.put, List.getElem_toArray, List.getElem_cons_succ, List.getElem_cons_zero, List.setIfInBounds_toArray, List.set_cons_zero, List.set_cons_succ]
  refine wpAnyH_take (i := 9) (oi := _) (v := _) rfl (by kernel_rfl) (by kernel_rfl) (by kernel_rfl) (fun _ _ _ h => h) (yieldsIf_load_mid (by rfl) _ _ rfl _ _ rfl _ _ (by intro w hSw; exact hSw.2.2.1) Try.underlying24 rfl i24b) hHeld ?_
  try simp only [Act.put, List.getElem_toArray, List.getElem_cons_succ, List.getElem_cons_zero, List.setIfInBounds_toArray, List.set_cons_zero, List.set_cons_succ]
  refine wpAnyH_take (i := 10) (oi := _) (v := _) rfl (by kernel_rfl) (by kernel_rfl) (by kernel_rfl) (fun _ _ _ h => h) (yieldsIf_load_mid (by rfl) _ _ rfl _ _ rfl _ _ (by intro w hSw; exact hSw.2.2.2) Try.underlying24 rfl i24m) hHeld ?_
  try simp only [Act.put, List.getElem_toArray, List.getElem_cons_succ, List.getElem_cons_zero, List.setIfInBounds_toArray, List.set_cons_zero, List.set_cons_succ]
  refine wpAnyH_take (i := 12) (oi := _) (v := _) rfl (by kernel_rfl) (by kernel_rfl) (by kernel_rfl) (fun _ _ _ h => h) (yieldsIf_load_mid (by rfl) _ _ rfl _ _ rfl _ _ (by intro w hSw; exact hSw.2.2.2) Try.underlying24 rfl i24m) hHeld ?_
  try simp only [Act.put, List.getElem_toArray, List.getElem_cons_succ, List.getElem_cons_zero, List.setIfInBounds_toArray, List.set_cons_zero, List.set_cons_succ]
  refine wpAnyH_ready (rs := [11]) (by kernel_rfl) (by simp) ?_
  refine AllReadyH.cons (o := _) rfl (fun K hK => ?_) AllReadyH.nil
  go_simp
  go_at_call 35
  refine (HDP.out _).mono ?_
  rintro e wx901 ⟨rfl, hbx901⟩
  refine hK.out _ _ ⟨range_keepF hHeld.1 hbx901, range_keepF hHeld.2.1 hbx901, range_keepF hHeld.2.2.1 hbx901, range_keepF hHeld.2.2.2 hbx901⟩ (fun hHeld2 => ?_)
  clear hK K hHeld
  have hHeld := hHeld2
  clear hHeld2
  try simp only [Act.put, List.getElem_toArray, List.getElem_cons_succ, List.getElem_cons_zero, List.setIfInBounds_toArray, List.set_cons_zero, List.set_cons_succ]
  refine wpAnyH_ready (rs := [13]) (by kernel_rfl) (by simp) ?_
  refine AllReadyH.cons (o := _) rfl (fun K hK => ?_) AllReadyH.nil
  go_simp
  go_at_call 23
  refine (HFO.out _).mono ?_
  rintro e wx902 ⟨rfl, hbx902⟩
  refine hK.out _ _ ⟨range_keepF hHeld.1 hbx902, range_keepF hHeld.2.1 hbx902, range_keepF hHeld.2.2.1 hbx902, range_keepF hHeld.2.2.2 hbx902⟩ (fun hHeld2 => ?_)
  clear hK K hHeld
  have hHeld := hHeld2
  clear hHeld2
  try simp only [Act.put, List.getElem_toArray, List.getElem_cons_succ, List.getElem_cons_zero, List.setIfInBounds_toArray, List.set_cons_zero, List.set_cons_succ]
  have q := neS lX LX.out
  refine wpAnyH_take (i := 14) (oi := _) (v := _) rfl (by kernel_rfl) (by kernel_rfl) (by kernel_rfl) (fun _ _ _ h => h) (Or.inl ⟨by rfl, by intro w hSw; (try dsimp only at hSw); go_simp; first | done | with_reducible rfl⟩) hHeld ?_
  try simp only [Act.put, List.getElem_toArray, List.getElem_cons_succ, List.getElem_cons_zero, List.setIfInBounds_toArray, List.set_cons_zero, List.set_cons_succ]
  clear q
  refine wpAnyH_take (i := 15) (oi := _) (v := _) rfl (by kernel_rfl) (by kernel_rfl) (by kernel_rfl) (fun _ _ _ h => h) (Or.inl ⟨by rfl, by intro w hSw; (try dsimp only at hSw); go_simp; first | done | with_reducible rfl⟩) hHeld ?_
  try simp only [Act.put, List.getElem_toArray, List.getElem_cons_succ, List.getElem_cons_zero, List.setIfInBounds_toArray, List.set_cons_zero, List.set_cons_succ]
  refine wpAnyH_done (by kernel_rfl) ?_ _
  have E110 := Lib.hid ((D102.out.drew.below' hbx901).below' hbx902)
  have E111 := Lib.hid ((D103.out.drew.below' hbx901).below' hbx902)
  have E112 := Lib.hid ((D104.out.drew.below' hbx901).below' hbx902)
  have E113 := Lib.hid ((D105.out.drew.below' hbx901).below' hbx902)
  have E114 := Lib.hid ((D106.out.drew.below' hbx901).below' hbx902)
  have E115 := Lib.hid ((D107.out.drew.below' hbx901).below' hbx902)
  have E116 := Lib.hid ((D108.out.drew.below' hbx901).below' hbx902)
  have hbel117 := (hbel109.drew).trans (hbx901.mono (hbel109.drew).size)
  have hbel118 := (hbel117).trans (hbx902.mono (hbel117).size)
  clear hHeld hbx901 hbx902 D102 D103 D104 D105 D106 D107 D108
  as_aux_lemma =>
  have q := QZ.out
  go_wp2_with (first | (refine ld24 rfl (.tmp 4) rfl w.heap.size rfl la E110.out LA.out ?_) | (refine ld24 rfl (.tmp 16) rfl G75 rfl (zeros 4) E115.out rfl ?_) | (refine ld24 rfl (.tmp 12) rfl G52 rfl lY E114.out LY.out ?_) | (refine ld24 rfl (.tmp 8) rfl G15 rfl lm E112.out LM.out ?_))
  clear q
  refine (HL2.out _).mono ?_
  rintro e w119 ⟨rfl, hbw119⟩
  have C120 := Lib.hid (E110.out.below' hbw119)
  have C121 := Lib.hid (E111.out.below' hbw119)
  have C122 := Lib.hid (E112.out.below' hbw119)
  have C123 := Lib.hid (E113.out.below' hbw119)
  have C124 := Lib.hid (E114.out.below' hbw119)
  have C125 := Lib.hid (E115.out.below' hbw119)
  have C126 := Lib.hid (E116.out.below' hbw119)
  have hbel127 := hbel118.trans (hbw119.mono hbel118.size)
  clear E110 E111 E112 E113 E114 E115 E116 hbw119 hbel118
  go_wp2_with fail
  as_aux_lemma =>
  refine wp_region_held_drew (S := (fun w' => w'.rangeAt G101 0 (natsV .u64 lU) ∧ w'.rangeAt G52 0 (natsV .u64 lY) ∧ w'.rangeAt G15 0 (natsV .u64 lm))) (by kernel_rfl) ⟨blk_rangeV C126.out.drew, blk_rangeV C124.out.drew, blk_rangeV C122.out.drew⟩ (fun hHeld => ?_)
  refine wpAnyH_take (i := 0) (oi := _) (v := _) rfl (by kernel_rfl) (by kernel_rfl) (by kernel_rfl) (fun _ _ _ h => h) (Or.inl ⟨by rfl, by intro w hSw; (try dsimp only at hSw); go_simp; first | done | with_reducible rfl⟩) hHeld ?_
  try simp only [Act.put, List.getElem_toArray, List.getElem_cons_succ, List.getElem_cons_zero, List.setIfInBounds_toArray, List.set_cons_zero, List.set_cons_succ]
  refine wpAnyH_take (i := 1) (oi := _) (v := _) rfl (by kernel_rfl) (by kernel_rfl) (by kernel_rfl) (fun _ _ _ h => h) (Or.inl ⟨by rfl, by intro w hSw; (try dsimp only at hSw); go_simp; first | done | with_reducible rfl⟩) hHeld ?_
  try simp only [Act.put, List.getElem_toArray, List.getElem_cons_succ, List.getElem_cons_zero, List.setIfInBounds_toArray, List.set_cons_zero, List.set_cons_succ]
  refine wpAnyH_take (i := 2) (oi := _) (v := _) rfl (by kernel_rfl) (by kernel_rfl) (by kernel_rfl) (fun _ _ _ h => h) (Or.inl ⟨by rfl, by intro w hSw; (try dsimp only at hSw); go_simp; first | done | with_reducible rfl⟩) hHeld ?_
  try simp only [Act.put, List.getElem_toArray, List.getElem_cons_succ, List.getElem_cons_zero, List.setIfInBounds_toArray, List.set_cons_zero, List.set_cons_succ]
  refine wpAnyH_take (i := 3) (oi := _) (v := _) rfl (by kernel_rfl) (by kernel_rfl) (by kernel_rfl) (fun _ _ _ h => h) (Or.inl ⟨by rfl, by intro w hSw; (try dsimp only at hSw); go_simp; first | done | with_reducible rfl⟩) hHeld ?_
  try simp only [Act.put, List.getElem_toArray, List.getElem_cons_succ, List.getElem_cons_zero, List.setIfInBounds_toArray, List.set_cons_zero, List.set_cons_succ]
  refine wpAnyH_take (i := 4) (oi := _) (v := _) rfl (by kernel_rfl) (by kernel_rfl) (by kernel_rfl) (fun _ _ _ h => h) (Or.inl ⟨by rfl, by intro w hSw; (try dsimp only at hSw); go_simp; first | done | with_reducible rfl⟩) hHeld ?_
  try simp only [Act.put, List.getElem_toArray, List.getElem_cons_succ, List.getElem_cons_zero, List.setIfInBounds_toArray, List.set_cons_zero, List.set_cons_succ]
  refine wpAnyH_take (i := 5) (oi := _) (v := _) rfl (by kernel_rfl) (by kernel_rfl) (by kernel_rfl) (fun _ _ _ h => h) (Or.inl ⟨by rfl, by intro w hSw; (try dsimp only at hSw); go_simp; first | done | with_reducible rfl⟩) hHeld ?_
  try simp only [Act.put, List.getElem_toArray, List.getElem_cons_succ, List.getElem_cons_zero, List.setIfInBounds_toArray, List.set_cons_zero, List.set_cons_succ]
  refine wpAnyH_take (i := 6) (oi := _) (v := _) rfl (by kernel_rfl) (by kernel_rfl) (by kernel_rfl) (fun _ _ _ h => h) (yieldsIf_load_mid (by rfl) _ _ rfl _ _ rfl _ _ (by intro w hSw; exact hSw.1) Try.underlying24 rfl i24u) hHeld ?_
  try simp only [Act.put, List.getElem_toArray, List.getElem_cons_succ, List.getElem_cons_zero, List.setIfInBounds_toArray, List.set_cons_zero, List.set_cons_succ]
  refine wpAnyH_take (i := 7) (oi := _) (v := _) rfl (by kernel_rfl) (by kernel_rfl) (by kernel_rfl) (fun _ _ _ h => h) (yieldsIf_load_mid (by rfl) _ _ rfl _ _ rfl _ _ (by intro w hSw; exact hSw.2.1) Try.underlying24 rfl i24y) hHeld ?_
  try simp only [Act.put, List.getElem_toArray, List.getElem_cons_succ, List.getElem_cons_zero, List.setIfInBounds_toArray, List.set_cons_zero, List.set_cons_succ]
  refine wpAnyH_take (i := 8) (oi := _) (v := _) rfl (by kernel_rfl) (by kernel_rfl) (by kernel_rfl) (fun _ _ _ h => h) (yieldsIf_load_mid (by rfl) _ _ rfl _ _ rfl _ _ (by intro w hSw; exact hSw.2.2) Try.underlying24 rfl i24m) hHeld ?_
  try simp only [Act.put, List.getElem_toArray, List.getElem_cons_succ, List.getElem_cons_zero, List.setIfInBounds_toArray, List.set_cons_zero, List.set_cons_succ]
  refine wpAnyH_take (i := 10) (oi := _) (v := _) rfl (by kernel_rfl) (by kernel_rfl) (by kernel_rfl) (fun _ _ _ h => h) (yieldsIf_load_mid (by rfl) _ _ rfl _ _ rfl _ _ (by intro w hSw; exact hSw.2.2) Try.underlying24 rfl i24m) hHeld ?_
  try simp only [Act.put, List.getElem_toArray, List.getElem_cons_succ, List.getElem_cons_zero, List.setIfInBounds_toArray, List.set_cons_zero, List.set_cons_succ]
  refine wpAnyH_take (i := 12) (oi := _) (v := _) rfl (by kernel_rfl) (by kernel_rfl) (by kernel_rfl) (fun _ _ _ h => h) (Or.inl ⟨by rfl, by intro w hSw; (try dsimp only at hSw); go_simp; first | done | with_reducible rfl⟩) hHeld ?_
  try simp only [Act.put, List.getElem_toArray, List.getElem_cons_succ, List.getElem_cons_zero, List.setIfInBounds_toArray, List.set_cons_zero, List.set_cons_succ]
  refine wpAnyH_ready (rs := [9]) (by kernel_rfl) (by simp) ?_
  refine AllReadyH.cons (o := _) rfl (fun K hK => ?_) AllReadyH.nil
  go_simp
  go_at_call 26
  refine (HPY.out _).mono ?_
  rintro e wx903 ⟨rfl, hbx903⟩
  refine hK.out _ _ ⟨range_keepF hHeld.1 hbx903, range_keepF hHeld.2.1 hbx903, range_keepF hHeld.2.2 hbx903⟩ (fun hHeld2 => ?_)
  clear hK K hHeld
  have hHeld := hHeld2
  clear hHeld2
  try simp only [Act.put, List.getElem_toArray, List.getElem_cons_succ, List.getElem_cons_zero, List.setIfInBounds_toArray, List.set_cons_zero, List.set_cons_succ]
  refine wpAnyH_ready (rs := [11]) (by kernel_rfl) (by simp) ?_
  refine AllReadyH.cons (o := _) rfl (fun K hK => ?_) AllReadyH.nil
  go_simp
  go_at_call 30
  refine (HMU.out _).mono ?_
  rintro e wx904 ⟨rfl, hbx904⟩
  refine hK.out _ _ ⟨range_keepF hHeld.1 hbx904, range_keepF hHeld.2.1 hbx904, range_keepF hHeld.2.2 hbx904⟩ (fun hHeld2 => ?_)
  clear hK K hHeld
  have hHeld := hHeld2
  clear hHeld2
  try simp only [Act.put, List.getElem_toArray, List.getElem_cons_succ, List.getElem_cons_zero, List.setIfInBounds_toArray, List.set_cons_zero, List.set_cons_succ]
  have q := Q1.out
  refine wpAnyH_take (i := 13) (oi := _) (v := _) rfl (by kernel_rfl) (by kernel_rfl) (by kernel_rfl) (fun _ _ _ h => h) (Or.inl ⟨by rfl, by intro w hSw; (try dsimp only at hSw); go_simp; first | done | with_reducible rfl⟩) hHeld ?_
  try simp only [Act.put, List.getElem_toArray, List.getElem_cons_succ, List.getElem_cons_zero, List.setIfInBounds_toArray, List.set_cons_zero, List.set_cons_succ]
  clear q
  refine wpAnyH_take (i := 14) (oi := _) (v := _) rfl (by kernel_rfl) (by kernel_rfl) (by kernel_rfl) (fun _ _ _ h => h) (Or.inl ⟨by rfl, by intro w hSw; (try dsimp only at hSw); go_simp; first | done | with_reducible rfl⟩) hHeld ?_
  try simp only [Act.put, List.getElem_toArray, List.getElem_cons_succ, List.getElem_cons_zero, List.setIfInBounds_toArray, List.set_cons_zero, List.set_cons_succ]
  refine wpAnyH_take (i := 15) (oi := _) (v := _) rfl (by kernel_rfl) (by kernel_rfl) (by kernel_rfl) (fun _ _ _ h => h) (Or.inl ⟨by rfl, by intro w hSw; (try dsimp only at hSw); go_simp; first | done | with_reducible rfl⟩) hHeld ?_
  try simp only [Act.put, List.getElem_toArray, List.getElem_cons_succ, List.getElem_cons_zero, List.setIfInBounds_toArray, List.set_cons_zero, List.set_cons_succ]
  refine wpAnyH_done (by kernel_rfl) ?_ _
  have E128 := Lib.hid ((C120.out.drew.below' hbx903).below' hbx904)
  have E129 := Lib.hid ((C121.out.drew.below' hbx903).below' hbx904)
  have E130 := Lib.hid ((C122.out.drew.below' hbx903).below' hbx904)
  have E131 := Lib.hid ((C123.out.drew.below' hbx903).below' hbx904)
  have E132 := Lib.hid ((C124.out.drew.below' hbx903).below' hbx904)
  have E133 := Lib.hid ((C125.out.drew.below' hbx903).below' hbx904)
  have E134 := Lib.hid ((C126.out.drew.below' hbx903).below' hbx904)
  have hbel135 := (hbel127.drew).trans (hbx903.mono (hbel127.drew).size)
  have hbel136 := (hbel135).trans (hbx904.mono (hbel135).size)
  clear hHeld hbx903 hbx904 C120 C121 C122 C123 C124 C125 C126
  as_aux_lemma =>
  go_wp2_with fail
  go_ret
  exact ⟨rfl, hbel136⟩
theorem powers5_walk (k : Int) (a b : Nat) (w : World) (ha : a < 2 ^ 256) (hb : b < 2 ^ 256) :
    Calls Try.prog 7 #[.int .i64 k, .agg (natsV .u64 (wds 4 a)).toArray, .agg (natsV .u64 (wds 4 b)).toArray] w fun e w' => e = .returned (.bool true) ∧ Below w.heap.size w w' := by
  rcases Wh.dec k with ⟨m, f, v, h⟩ | h
  · by_cases hc : a < m
    · by_cases h0 : a = 0
      · exact powers5_zero k m f v a b w ha hb h h0
      · exact powers5_ok k m f v a b w ha hb h hc h0
    · exact powers5_big k m f v a b w ha hb h hc
  · exact powers5_no k a b w ha hb h
end Go.Proofs.Ytfaoajljaggklaa
