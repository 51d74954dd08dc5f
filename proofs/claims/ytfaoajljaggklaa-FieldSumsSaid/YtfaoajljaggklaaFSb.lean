/- FieldSums: a case. No condition but 256 bits. -/
import Derived.Test.YtfaoajljaggklaaMl
import Derived.Test.YtfaoajljaggklaaWa
namespace Go.Proofs.Ytfaoajljaggklaa
open Go.RowKit
set_option linter.unusedVariables false
set_option linter.unusedSimpArgs false
set_option maxRecDepth 100000 in
set_option maxHeartbeats 1600000 in
theorem sums5_a (k : Int) (m f v : Nat) (a b : Nat) (w : World) (ha : a < 2 ^ 256) (hb : b < 2 ^ 256) (h : Wh k m f v) (hc : ¬ a < m) :
    Calls Try.prog 6 #[.int .i64 k, .agg (natsV .u64 (wds 4 a)).toArray, .agg (natsV .u64 (wds 4 b)).toArray] w fun e w' => e = .returned (.bool true) ∧ Below w.heap.size w w' := by
  have H := h.fld
  have hm := H.lt
  have hgt := H.gt
  have HP := Lib.hid (fun w => DPrime_ok k m f v w h)
  have HL1 := Lib.hid (fun w => Less_any a m w ha hm)
  have HL2 := Lib.hid (fun w => Less_any b m w hb hm)
  have PE := perr_2 k m f v a b h ha hb (fun hh => hc hh.1)
  rw [decide_eq_false hc] at HL1
  have HA := Lib.hid (fun w => FAdd_err k 52 a b w (by decide) PE)
  have HS := Lib.hid (fun w => Sub_err k 52 a b w (by decide) PE)
  have HM := Lib.hid (fun w => Mul_err k 52 a b w (by decide) PE)
  clear PE
  generalize decide (b < m) = two at *
  have LM := Lib.hid (wds_len 4 m)
  generalize wds 4 m = lm at *
  clear h H hm hgt hc
  have LA := Lib.hid (wds_len 4 a)
  have LB := Lib.hid (wds_len 4 b)
  generalize wds 4 a = la at *
  generalize wds 4 b = lb at *
  clear ha hb
  have B1 := Lib.hid ((Blk.new w 24 (natsV .u64 la)).alloc (.cells (natsV .u64 lb).toArray 24))
  have B2 := Lib.hid (Blk.new2 w (.cells (natsV .u64 la).toArray 24) 24 (natsV .u64 lb))
  have BEL := Lib.hid (((Below.refl w.heap.size w).alloc (Nat.le_refl _) (.cells (natsV .u64 la).toArray 24)).alloc (by simp) (.cells (natsV .u64 lb).toArray 24))
  go_enter Try.func6, Try.ntmps6
  go_wp2_with fail
  refine (fawake_any _).mono ?_
  rintro e w1 ⟨rfl, hbw1⟩
  have C2 := Lib.hid (B1.out.below' hbw1)
  have C3 := Lib.hid (B2.out.below' hbw1)
  have hbel4 := BEL.out.trans (hbw1.mono BEL.out.size)
  clear B1 B2 hbw1
  go_wp2_with fail
  refine (HP.out _).mono ?_
  rintro e w5 ⟨rfl, hbw5⟩
  have C6 := Lib.hid (C2.out.below' hbw5)
  have C7 := Lib.hid (C3.out.below' hbw5)
  have hbel8 := hbel4.trans (hbw5.mono hbel4.size)
  clear C2 C3 hbw5 hbel4
  have Z10 := Lib.hid (Blk.new w5 24 (natsV .u64 (zeros 4)))
  have hz11 := Lib.hid (below_setRow' (hbel8.alloc hbel8.size (.cells (natsV .u64 (zeros 4)).toArray 24)) hbel8.size (natsV .u64 lm).toArray)
  have Y12 := Lib.hid ((C6.out.alloc (.cells (natsV .u64 (zeros 4)).toArray 24)).row (natsV .u64 lm).toArray (Nat.ne_of_lt C6.out.lt))
  have Y13 := Lib.hid ((C7.out.alloc (.cells (natsV .u64 (zeros 4)).toArray 24)).row (natsV .u64 lm).toArray (Nat.ne_of_lt C7.out.lt))
  have Y14 := Lib.hid (Z10.out.setRow (natsV .u64 lm))
  go_wp2_with (first | (refine st24 rfl (.tmp 8) (.tmp 26) rfl w5.heap.size rfl lm rfl LM.out (zeros 4) Z10.out rfl ?_; generalize hW : World.setRow _ _ _ = w9; have D16 := Lib.hid (show Blk w9 w.heap.size 24 (natsV .u64 la) from (by rw [← hW]; exact Y12.out)); have D17 := Lib.hid (show Blk w9 (w.heap.size + 1) 24 (natsV .u64 lb) from (by rw [← hW]; exact Y13.out)); have D18 := Lib.hid (show Blk w9 w5.heap.size 24 (natsV .u64 lm) from (by rw [← hW]; exact Y14.out)); have LE_D18 := (hbel8).size; have NE_D16 := Nat.ne_of_lt C6.out.lt; have NE_D17 := Nat.ne_of_lt C7.out.lt; have hbel19 : Below w.heap.size w w9 := (by rw [← hW]; exact hz11.out); clear hW Z10 hz11 C6 C7 Y12 Y13 Y14 hbel8; generalize w5.heap.size = G15 at *) | (refine ld24 rfl (.tmp 4) rfl w.heap.size rfl la D16.out LA.out ?_) | (refine ld24 rfl (.tmp 5) rfl (w.heap.size + 1) rfl lb D17.out LB.out ?_))
  refine (HA.out _).mono ?_
  rintro e w20 ⟨rfl, hbw20⟩
  have C21 := Lib.hid (D16.out.below' hbw20)
  have C22 := Lib.hid (D17.out.below' hbw20)
  have C23 := Lib.hid (D18.out.below' hbw20)
  have hbel24 := hbel19.trans (hbw20.mono hbel19.size)
  clear D16 D17 D18 hbw20 hbel19
  have Z26 := Lib.hid (Blk.new w20 24 (natsV .u64 (zeros 4)))
  have hz27 := Lib.hid (below_setRow' (hbel24.alloc hbel24.size (.cells (natsV .u64 (zeros 4)).toArray 24)) hbel24.size (natsV .u64 (zeros 4)).toArray)
  have Y28 := Lib.hid ((C21.out.alloc (.cells (natsV .u64 (zeros 4)).toArray 24)).row (natsV .u64 (zeros 4)).toArray (Nat.ne_of_lt C21.out.lt))
  have Y29 := Lib.hid ((C22.out.alloc (.cells (natsV .u64 (zeros 4)).toArray 24)).row (natsV .u64 (zeros 4)).toArray (Nat.ne_of_lt C22.out.lt))
  have Y30 := Lib.hid ((C23.out.alloc (.cells (natsV .u64 (zeros 4)).toArray 24)).row (natsV .u64 (zeros 4)).toArray (Nat.ne_of_lt C23.out.lt))
  have Y31 := Lib.hid (Z26.out.setRow (natsV .u64 (zeros 4)))
  go_wp2_with (first | (refine st24 rfl (.tmp 10) (.tmp 33) rfl w20.heap.size rfl (zeros 4) rfl rfl (zeros 4) Z26.out rfl ?_; generalize hW : World.setRow _ _ _ = w25; have D33 := Lib.hid (show Blk w25 w.heap.size 24 (natsV .u64 la) from (by rw [← hW]; exact Y28.out)); have D34 := Lib.hid (show Blk w25 (w.heap.size + 1) 24 (natsV .u64 lb) from (by rw [← hW]; exact Y29.out)); have D35 := Lib.hid (show Blk w25 G15 24 (natsV .u64 lm) from (by rw [← hW]; exact Y30.out)); have D36 := Lib.hid (show Blk w25 w20.heap.size 24 (natsV .u64 (zeros 4)) from (by rw [← hW]; exact Y31.out)); have LE_D36 := (hbel24).size; have NE_D33 := Nat.ne_of_lt C21.out.lt; have NE_D34 := Nat.ne_of_lt C22.out.lt; have NE_D35 := Nat.ne_of_lt C23.out.lt; have hbel37 : Below w.heap.size w w25 := (by rw [← hW]; exact hz27.out); clear hW Z26 hz27 C21 C22 C23 Y28 Y29 Y30 Y31 hbel24; generalize w20.heap.size = G32 at *) | (refine ld24 rfl (.tmp 4) rfl w.heap.size rfl la D33.out LA.out ?_) | (refine ld24 rfl (.tmp 5) rfl (w.heap.size + 1) rfl lb D34.out LB.out ?_))
  refine (HS.out _).mono ?_
  rintro e w38 ⟨rfl, hbw38⟩
  have C39 := Lib.hid (D33.out.below' hbw38)
  have C40 := Lib.hid (D34.out.below' hbw38)
  have C41 := Lib.hid (D35.out.below' hbw38)
  have C42 := Lib.hid (D36.out.below' hbw38)
  have hbel43 := hbel37.trans (hbw38.mono hbel37.size)
  clear D33 D34 D35 D36 hbw38 hbel37
  have Z45 := Lib.hid (Blk.new w38 24 (natsV .u64 (zeros 4)))
  have hz46 := Lib.hid (below_setRow' (hbel43.alloc hbel43.size (.cells (natsV .u64 (zeros 4)).toArray 24)) hbel43.size (natsV .u64 (zeros 4)).toArray)
  have Y47 := Lib.hid ((C39.out.alloc (.cells (natsV .u64 (zeros 4)).toArray 24)).row (natsV .u64 (zeros 4)).toArray (Nat.ne_of_lt C39.out.lt))
  have Y48 := Lib.hid ((C40.out.alloc (.cells (natsV .u64 (zeros 4)).toArray 24)).row (natsV .u64 (zeros 4)).toArray (Nat.ne_of_lt C40.out.lt))
  have Y49 := Lib.hid ((C41.out.alloc (.cells (natsV .u64 (zeros 4)).toArray 24)).row (natsV .u64 (zeros 4)).toArray (Nat.ne_of_lt C41.out.lt))
  have Y50 := Lib.hid ((C42.out.alloc (.cells (natsV .u64 (zeros 4)).toArray 24)).row (natsV .u64 (zeros 4)).toArray (Nat.ne_of_lt C42.out.lt))
  have Y51 := Lib.hid (Z45.out.setRow (natsV .u64 (zeros 4)))
  go_wp2_with (first | (refine st24 rfl (.tmp 12) (.tmp 40) rfl w38.heap.size rfl (zeros 4) rfl rfl (zeros 4) Z45.out rfl ?_; generalize hW : World.setRow _ _ _ = w44; have D53 := Lib.hid (show Blk w44 w.heap.size 24 (natsV .u64 la) from (by rw [← hW]; exact Y47.out)); have D54 := Lib.hid (show Blk w44 (w.heap.size + 1) 24 (natsV .u64 lb) from (by rw [← hW]; exact Y48.out)); have D55 := Lib.hid (show Blk w44 G15 24 (natsV .u64 lm) from (by rw [← hW]; exact Y49.out)); have D56 := Lib.hid (show Blk w44 G32 24 (natsV .u64 (zeros 4)) from (by rw [← hW]; exact Y50.out)); have D57 := Lib.hid (show Blk w44 w38.heap.size 24 (natsV .u64 (zeros 4)) from (by rw [← hW]; exact Y51.out)); have LE_D57 := (hbel43).size; have NE_D53 := Nat.ne_of_lt C39.out.lt; have NE_D54 := Nat.ne_of_lt C40.out.lt; have NE_D55 := Nat.ne_of_lt C41.out.lt; have NE_D56 := Nat.ne_of_lt C42.out.lt; have hbel58 : Below w.heap.size w w44 := (by rw [← hW]; exact hz46.out); clear hW Z45 hz46 C39 C40 C41 C42 Y47 Y48 Y49 Y50 Y51 hbel43; generalize w38.heap.size = G52 at *) | (refine ld24 rfl (.tmp 4) rfl w.heap.size rfl la D53.out LA.out ?_) | (refine ld24 rfl (.tmp 5) rfl (w.heap.size + 1) rfl lb D54.out LB.out ?_))
  refine (HM.out _).mono ?_
  rintro e w59 ⟨rfl, hbw59⟩
  have C60 := Lib.hid (D53.out.below' hbw59)
  have C61 := Lib.hid (D54.out.below' hbw59)
  have C62 := Lib.hid (D55.out.below' hbw59)
  have C63 := Lib.hid (D56.out.below' hbw59)
  have C64 := Lib.hid (D57.out.below' hbw59)
  have hbel65 := hbel58.trans (hbw59.mono hbel58.size)
  clear D53 D54 D55 D56 D57 hbw59 hbel58
  have Z67 := Lib.hid (Blk.new w59 24 (natsV .u64 (zeros 4)))
  have hz68 := Lib.hid (below_setRow' (hbel65.alloc hbel65.size (.cells (natsV .u64 (zeros 4)).toArray 24)) hbel65.size (natsV .u64 (zeros 4)).toArray)
  have Y69 := Lib.hid ((C60.out.alloc (.cells (natsV .u64 (zeros 4)).toArray 24)).row (natsV .u64 (zeros 4)).toArray (Nat.ne_of_lt C60.out.lt))
  have Y70 := Lib.hid ((C61.out.alloc (.cells (natsV .u64 (zeros 4)).toArray 24)).row (natsV .u64 (zeros 4)).toArray (Nat.ne_of_lt C61.out.lt))
  have Y71 := Lib.hid ((C62.out.alloc (.cells (natsV .u64 (zeros 4)).toArray 24)).row (natsV .u64 (zeros 4)).toArray (Nat.ne_of_lt C62.out.lt))
  have Y72 := Lib.hid ((C63.out.alloc (.cells (natsV .u64 (zeros 4)).toArray 24)).row (natsV .u64 (zeros 4)).toArray (Nat.ne_of_lt C63.out.lt))
  have Y73 := Lib.hid ((C64.out.alloc (.cells (natsV .u64 (zeros 4)).toArray 24)).row (natsV .u64 (zeros 4)).toArray (Nat.ne_of_lt C64.out.lt))
  have Y74 := Lib.hid (Z67.out.setRow (natsV .u64 (zeros 4)))
  go_wp2_with (first | (refine st24 rfl (.tmp 14) (.tmp 47) rfl w59.heap.size rfl (zeros 4) rfl rfl (zeros 4) Z67.out rfl ?_; generalize hW : World.setRow _ _ _ = w66; have D76 := Lib.hid (show Blk w66 w.heap.size 24 (natsV .u64 la) from (by rw [← hW]; exact Y69.out)); have D77 := Lib.hid (show Blk w66 (w.heap.size + 1) 24 (natsV .u64 lb) from (by rw [← hW]; exact Y70.out)); have D78 := Lib.hid (show Blk w66 G15 24 (natsV .u64 lm) from (by rw [← hW]; exact Y71.out)); have D79 := Lib.hid (show Blk w66 G32 24 (natsV .u64 (zeros 4)) from (by rw [← hW]; exact Y72.out)); have D80 := Lib.hid (show Blk w66 G52 24 (natsV .u64 (zeros 4)) from (by rw [← hW]; exact Y73.out)); have D81 := Lib.hid (show Blk w66 w59.heap.size 24 (natsV .u64 (zeros 4)) from (by rw [← hW]; exact Y74.out)); have LE_D81 := (hbel65).size; have NE_D76 := Nat.ne_of_lt C60.out.lt; have NE_D77 := Nat.ne_of_lt C61.out.lt; have NE_D78 := Nat.ne_of_lt C62.out.lt; have NE_D79 := Nat.ne_of_lt C63.out.lt; have NE_D80 := Nat.ne_of_lt C64.out.lt; have hbel82 : Below w.heap.size w w66 := (by rw [← hW]; exact hz68.out); clear hW Z67 hz68 C60 C61 C62 C63 C64 Y69 Y70 Y71 Y72 Y73 Y74 hbel65; generalize w59.heap.size = G75 at *) | (refine ld24 rfl (.tmp 4) rfl w.heap.size rfl la D76.out LA.out ?_) | (refine ld24 rfl (.tmp 8) rfl G15 rfl lm D78.out LM.out ?_))
  refine (HL1.out _).mono ?_
  rintro e w83 ⟨rfl, hbw83⟩
  have C84 := Lib.hid (D76.out.below' hbw83)
  have C85 := Lib.hid (D77.out.below' hbw83)
  have C86 := Lib.hid (D78.out.below' hbw83)
  have C87 := Lib.hid (D79.out.below' hbw83)
  have C88 := Lib.hid (D80.out.below' hbw83)
  have C89 := Lib.hid (D81.out.below' hbw83)
  have hbel90 := hbel82.trans (hbw83.mono hbel82.size)
  clear D76 D77 D78 D79 D80 D81 hbw83 hbel82
  as_aux_lemma =>
  go_wp2_with (first | (refine ld24 rfl (.tmp 5) rfl (w.heap.size + 1) rfl lb C85.out LB.out ?_) | (refine ld24 rfl (.tmp 8) rfl G15 rfl lm C86.out LM.out ?_))
  refine (HL2.out _).mono ?_
  rintro e w91 ⟨rfl, hbw91⟩
  have C92 := Lib.hid (C84.out.below' hbw91)
  have C93 := Lib.hid (C85.out.below' hbw91)
  have C94 := Lib.hid (C86.out.below' hbw91)
  have C95 := Lib.hid (C87.out.below' hbw91)
  have C96 := Lib.hid (C88.out.below' hbw91)
  have C97 := Lib.hid (C89.out.below' hbw91)
  have hbel98 := hbel90.trans (hbw91.mono hbel90.size)
  clear C84 C85 C86 C87 C88 C89 hbw91 hbel90
  have Z100 := Lib.hid (Blk.new w91 24 (natsV .u64 (zeros 4)))
  have hz101 := Lib.hid (below_setRow' (hbel98.alloc hbel98.size (.cells (natsV .u64 (zeros 4)).toArray 24)) hbel98.size (natsV .u64 (zeros 4)).toArray)
  have Y102 := Lib.hid ((C92.out.alloc (.cells (natsV .u64 (zeros 4)).toArray 24)).row (natsV .u64 (zeros 4)).toArray (Nat.ne_of_lt C92.out.lt))
  have Y103 := Lib.hid ((C93.out.alloc (.cells (natsV .u64 (zeros 4)).toArray 24)).row (natsV .u64 (zeros 4)).toArray (Nat.ne_of_lt C93.out.lt))
  have Y104 := Lib.hid ((C94.out.alloc (.cells (natsV .u64 (zeros 4)).toArray 24)).row (natsV .u64 (zeros 4)).toArray (Nat.ne_of_lt C94.out.lt))
  have Y105 := Lib.hid ((C95.out.alloc (.cells (natsV .u64 (zeros 4)).toArray 24)).row (natsV .u64 (zeros 4)).toArray (Nat.ne_of_lt C95.out.lt))
  have Y106 := Lib.hid ((C96.out.alloc (.cells (natsV .u64 (zeros 4)).toArray 24)).row (natsV .u64 (zeros 4)).toArray (Nat.ne_of_lt C96.out.lt))
  have Y107 := Lib.hid ((C97.out.alloc (.cells (natsV .u64 (zeros 4)).toArray 24)).row (natsV .u64 (zeros 4)).toArray (Nat.ne_of_lt C97.out.lt))
  have Y108 := Lib.hid (Z100.out.setRow (natsV .u64 (zeros 4)))
  have q := eqS (zeros 4) rfl
  go_wp2_with (first | (refine st24 rfl (.tmp 19) (.tmp 65) rfl w91.heap.size rfl (zeros 4) (num_lit0.trans (by rw [num_zero])) rfl (zeros 4) Z100.out rfl ?_; generalize hW : World.setRow _ _ _ = w99; have D110 := Lib.hid (show Blk w99 w.heap.size 24 (natsV .u64 la) from (by rw [← hW]; exact Y102.out)); have D111 := Lib.hid (show Blk w99 (w.heap.size + 1) 24 (natsV .u64 lb) from (by rw [← hW]; exact Y103.out)); have D112 := Lib.hid (show Blk w99 G15 24 (natsV .u64 lm) from (by rw [← hW]; exact Y104.out)); have D113 := Lib.hid (show Blk w99 G32 24 (natsV .u64 (zeros 4)) from (by rw [← hW]; exact Y105.out)); have D114 := Lib.hid (show Blk w99 G52 24 (natsV .u64 (zeros 4)) from (by rw [← hW]; exact Y106.out)); have D115 := Lib.hid (show Blk w99 G75 24 (natsV .u64 (zeros 4)) from (by rw [← hW]; exact Y107.out)); have D116 := Lib.hid (show Blk w99 w91.heap.size 24 (natsV .u64 (zeros 4)) from (by rw [← hW]; exact Y108.out)); have LE_D116 := (hbel98).size; have NE_D110 := Nat.ne_of_lt C92.out.lt; have NE_D111 := Nat.ne_of_lt C93.out.lt; have NE_D112 := Nat.ne_of_lt C94.out.lt; have NE_D113 := Nat.ne_of_lt C95.out.lt; have NE_D114 := Nat.ne_of_lt C96.out.lt; have NE_D115 := Nat.ne_of_lt C97.out.lt; have hbel117 : Below w.heap.size w w99 := (by rw [← hW]; exact hz101.out); clear hW Z100 hz101 C92 C93 C94 C95 C96 C97 Y102 Y103 Y104 Y105 Y106 Y107 Y108 hbel98; generalize w91.heap.size = G109 at *) | (refine ldw 24 (.tmp 10) rfl G32 rfl .u64 (zeros 4) D113.out _ _ Try.underlying24 (by rw [info24]; rfl) 16 rfl 82 rfl rfl ?_) | (refine ldw 24 (.tmp 19) rfl G109 rfl .u64 (zeros 4) D116.out _ _ Try.underlying24 (by rw [info24]; rfl) 16 rfl 82 rfl rfl ?_) | (refine ldw 24 (.tmp 12) rfl G52 rfl .u64 (zeros 4) D114.out _ _ Try.underlying24 (by rw [info24]; rfl) 21 rfl 87 rfl rfl ?_) | (refine ldw 24 (.tmp 19) rfl G109 rfl .u64 (zeros 4) D116.out _ _ Try.underlying24 (by rw [info24]; rfl) 21 rfl 87 rfl rfl ?_) | (refine ldw 24 (.tmp 14) rfl G75 rfl .u64 (zeros 4) D115.out _ _ Try.underlying24 (by rw [info24]; rfl) 26 rfl 92 rfl rfl ?_) | (refine ldw 24 (.tmp 19) rfl G109 rfl .u64 (zeros 4) D116.out _ _ Try.underlying24 (by rw [info24]; rfl) 26 rfl 92 rfl rfl ?_; as_aux_lemma => (go_wp2_with fail; go_ret; exact ⟨rfl, hbel117⟩)))
end Go.Proofs.Ytfaoajljaggklaa
