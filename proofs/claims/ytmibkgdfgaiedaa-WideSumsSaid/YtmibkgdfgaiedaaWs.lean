/- WideSums answers true for any two numbers. No condition. -/
import Derived.Test.YtmibkgdfgaiedaaRa
import Derived.Test.YtmibkgdfgaiedaaAw
import Derived.Test.YtmibkgdfgaiedaaG
namespace Go.Proofs.Ytmibkgdfgaiedaa
open Go.RowKit
set_option linter.unusedVariables false
set_option linter.unusedSimpArgs false
set_option maxRecDepth 100000 in
set_option maxHeartbeats 1600000 in
theorem sums_walk (a b : Nat) (w : World) (ha : a < 2 ^ 256) (hb : b < 2 ^ 256) :
    Calls Try.prog 5 #[.agg (natsV .u64 (wds 4 a)).toArray, .agg (natsV .u64 (wds 4 b)).toArray] w fun e w' => e = .returned (.bool true) ∧ Below w.heap.size w w' := by
  have K1 := Lib.hid (fun w => Add_any a b w ha hb)
  have K2 := Lib.hid (fun w => Sub_any a b w ha hb)
  have K3 := Lib.hid (fun w => refAdd_any a b w ha hb)
  have K4 := Lib.hid (fun w => refSub_any a b w ha hb)
  have LS := Lib.hid (wds_len 4 (a + b))
  have LD := Lib.hid (wds_len 4 (a + 2 ^ 256 - b))
  have LA := Lib.hid (wds_len 4 a)
  have LB := Lib.hid (wds_len 4 b)
  generalize wds 4 (a + b) = ls at *
  generalize wds 4 (a + 2 ^ 256 - b) = ld at *
  generalize addC a b = cc at *
  generalize lt01 a b = bb at *
  generalize wds 4 a = la at *
  generalize wds 4 b = lb at *
  have Q1 := Lib.hid (fun w => show (binOp .eql 25 (.agg (natsV .u64 ls).toArray) (.agg (natsV .u64 ls).toArray)).run Try.prog w = .ok (.bool true) w from (eql25 ls ls LS.out LS.out w).trans (by simp))
  have Q2 := Lib.hid (fun w => show (binOp .eql 25 (.agg (natsV .u64 ld).toArray) (.agg (natsV .u64 ld).toArray)).run Try.prog w = .ok (.bool true) w from (eql25 ld ld LD.out LD.out w).trans (by simp))
  have B1 := Lib.hid ((Blk.new w 25 (natsV .u64 la)).alloc (.cells (natsV .u64 lb).toArray 25))
  have B2 := Lib.hid (Blk.new2 w (.cells (natsV .u64 la).toArray 25) 25 (natsV .u64 lb))
  have BEL := Lib.hid (((Below.refl w.heap.size w).alloc (Nat.le_refl _) (.cells (natsV .u64 la).toArray 25)).alloc (by simp) (.cells (natsV .u64 lb).toArray 25))
  go_enter Try.func5, Try.ntmps5
  go_wp2_with fail
  refine (awake_any _).mono ?_
  rintro e w1 ⟨rfl, hbw1⟩
  have C2 := Lib.hid (B1.out.below' hbw1)
  have C3 := Lib.hid (B2.out.below' hbw1)
  have hbel4 := BEL.out.trans (hbw1.mono BEL.out.size)
  clear B1 B2 hbw1
  go_wp2_with (first | (refine ld25 rfl (.tmp 2) rfl w.heap.size rfl la C2.out LA.out ?_) | (refine ld25 rfl (.tmp 3) rfl (w.heap.size + 1) rfl lb C3.out LB.out ?_))
  refine (K1.out _).mono ?_
  rintro e w5 ⟨rfl, hbw5⟩
  have C6 := Lib.hid (C2.out.below' hbw5)
  have C7 := Lib.hid (C3.out.below' hbw5)
  have hbel8 := hbel4.trans (hbw5.mono hbel4.size)
  clear C2 C3 hbw5 hbel4
  have Z10 := Lib.hid (Blk.new w5 25 (natsV .u64 (zeros 4)))
  have hz11 := Lib.hid (below_setRow' (hbel8.alloc hbel8.size (.cells (natsV .u64 (zeros 4)).toArray 25)) hbel8.size (natsV .u64 ls).toArray)
  have Y12 := Lib.hid ((C6.out.alloc (.cells (natsV .u64 (zeros 4)).toArray 25)).row (natsV .u64 ls).toArray (Nat.ne_of_lt C6.out.lt))
  have Y13 := Lib.hid ((C7.out.alloc (.cells (natsV .u64 (zeros 4)).toArray 25)).row (natsV .u64 ls).toArray (Nat.ne_of_lt C7.out.lt))
  have Y14 := Lib.hid (Z10.out.setRow (natsV .u64 ls))
  go_wp2_with (first | (refine st25 rfl (.tmp 6) (.tmp 19) rfl w5.heap.size rfl ls rfl LS.out (zeros 4) Z10.out rfl ?_; generalize hW : World.setRow _ _ _ = w9; have D16 := Lib.hid (show Blk w9 w.heap.size 25 (natsV .u64 la) from (by rw [← hW]; exact Y12.out)); have D17 := Lib.hid (show Blk w9 (w.heap.size + 1) 25 (natsV .u64 lb) from (by rw [← hW]; exact Y13.out)); have D18 := Lib.hid (show Blk w9 w5.heap.size 25 (natsV .u64 ls) from (by rw [← hW]; exact Y14.out)); have hbel19 : Below w.heap.size w w9 := (by rw [← hW]; exact hz11.out); clear hW Z10 hz11 C6 C7 Y12 Y13 Y14 hbel8; generalize w5.heap.size = G15 at *) | (refine ld25 rfl (.tmp 2) rfl w.heap.size rfl la D16.out LA.out ?_) | (refine ld25 rfl (.tmp 3) rfl (w.heap.size + 1) rfl lb D17.out LB.out ?_))
  refine (K2.out _).mono ?_
  rintro e w20 ⟨rfl, hbw20⟩
  have C21 := Lib.hid (D16.out.below' hbw20)
  have C22 := Lib.hid (D17.out.below' hbw20)
  have C23 := Lib.hid (D18.out.below' hbw20)
  have hbel24 := hbel19.trans (hbw20.mono hbel19.size)
  clear D16 D17 D18 hbw20 hbel19
  have Z26 := Lib.hid (Blk.new w20 25 (natsV .u64 (zeros 4)))
  have hz27 := Lib.hid (below_setRow' (hbel24.alloc hbel24.size (.cells (natsV .u64 (zeros 4)).toArray 25)) hbel24.size (natsV .u64 ld).toArray)
  have Y28 := Lib.hid ((C21.out.alloc (.cells (natsV .u64 (zeros 4)).toArray 25)).row (natsV .u64 ld).toArray (Nat.ne_of_lt C21.out.lt))
  have Y29 := Lib.hid ((C22.out.alloc (.cells (natsV .u64 (zeros 4)).toArray 25)).row (natsV .u64 ld).toArray (Nat.ne_of_lt C22.out.lt))
  have Y30 := Lib.hid ((C23.out.alloc (.cells (natsV .u64 (zeros 4)).toArray 25)).row (natsV .u64 ld).toArray (Nat.ne_of_lt C23.out.lt))
  have Y31 := Lib.hid (Z26.out.setRow (natsV .u64 ld))
  go_wp2_with (first | (refine st25 rfl (.tmp 8) (.tmp 25) rfl w20.heap.size rfl ld rfl LD.out (zeros 4) Z26.out rfl ?_; generalize hW : World.setRow _ _ _ = w25; have D33 := Lib.hid (show Blk w25 w.heap.size 25 (natsV .u64 la) from (by rw [← hW]; exact Y28.out)); have D34 := Lib.hid (show Blk w25 (w.heap.size + 1) 25 (natsV .u64 lb) from (by rw [← hW]; exact Y29.out)); have D35 := Lib.hid (show Blk w25 G15 25 (natsV .u64 ls) from (by rw [← hW]; exact Y30.out)); have D36 := Lib.hid (show Blk w25 w20.heap.size 25 (natsV .u64 ld) from (by rw [← hW]; exact Y31.out)); have hbel37 : Below w.heap.size w w25 := (by rw [← hW]; exact hz27.out); clear hW Z26 hz27 C21 C22 C23 Y28 Y29 Y30 Y31 hbel24; generalize w20.heap.size = G32 at *) | (refine ld25 rfl (.tmp 2) rfl w.heap.size rfl la D33.out LA.out ?_) | (refine ld25 rfl (.tmp 3) rfl (w.heap.size + 1) rfl lb D34.out LB.out ?_))
  refine (K3.out _).mono ?_
  rintro e w38 ⟨rfl, hbw38⟩
  have C39 := Lib.hid (D33.out.below' hbw38)
  have C40 := Lib.hid (D34.out.below' hbw38)
  have C41 := Lib.hid (D35.out.below' hbw38)
  have C42 := Lib.hid (D36.out.below' hbw38)
  have hbel43 := hbel37.trans (hbw38.mono hbel37.size)
  clear D33 D34 D35 D36 hbw38 hbel37
  have Z45 := Lib.hid (Blk.new w38 25 (natsV .u64 (zeros 4)))
  have hz46 := Lib.hid (below_setRow' (hbel43.alloc hbel43.size (.cells (natsV .u64 (zeros 4)).toArray 25)) hbel43.size (natsV .u64 ls).toArray)
  have Y47 := Lib.hid ((C39.out.alloc (.cells (natsV .u64 (zeros 4)).toArray 25)).row (natsV .u64 ls).toArray (Nat.ne_of_lt C39.out.lt))
  have Y48 := Lib.hid ((C40.out.alloc (.cells (natsV .u64 (zeros 4)).toArray 25)).row (natsV .u64 ls).toArray (Nat.ne_of_lt C40.out.lt))
  have Y49 := Lib.hid ((C41.out.alloc (.cells (natsV .u64 (zeros 4)).toArray 25)).row (natsV .u64 ls).toArray (Nat.ne_of_lt C41.out.lt))
  have Y50 := Lib.hid ((C42.out.alloc (.cells (natsV .u64 (zeros 4)).toArray 25)).row (natsV .u64 ls).toArray (Nat.ne_of_lt C42.out.lt))
  have Y51 := Lib.hid (Z45.out.setRow (natsV .u64 ls))
  go_wp2_with (first | (refine st25 rfl (.tmp 10) (.tmp 31) rfl w38.heap.size rfl ls rfl LS.out (zeros 4) Z45.out rfl ?_; generalize hW : World.setRow _ _ _ = w44; have D53 := Lib.hid (show Blk w44 w.heap.size 25 (natsV .u64 la) from (by rw [← hW]; exact Y47.out)); have D54 := Lib.hid (show Blk w44 (w.heap.size + 1) 25 (natsV .u64 lb) from (by rw [← hW]; exact Y48.out)); have D55 := Lib.hid (show Blk w44 G15 25 (natsV .u64 ls) from (by rw [← hW]; exact Y49.out)); have D56 := Lib.hid (show Blk w44 G32 25 (natsV .u64 ld) from (by rw [← hW]; exact Y50.out)); have D57 := Lib.hid (show Blk w44 w38.heap.size 25 (natsV .u64 ls) from (by rw [← hW]; exact Y51.out)); have hbel58 : Below w.heap.size w w44 := (by rw [← hW]; exact hz46.out); clear hW Z45 hz46 C39 C40 C41 C42 Y47 Y48 Y49 Y50 Y51 hbel43; generalize w38.heap.size = G52 at *) | (refine ld25 rfl (.tmp 2) rfl w.heap.size rfl la D53.out LA.out ?_) | (refine ld25 rfl (.tmp 3) rfl (w.heap.size + 1) rfl lb D54.out LB.out ?_))
  refine (K4.out _).mono ?_
  rintro e w59 ⟨rfl, hbw59⟩
  have C60 := Lib.hid (D53.out.below' hbw59)
  have C61 := Lib.hid (D54.out.below' hbw59)
  have C62 := Lib.hid (D55.out.below' hbw59)
  have C63 := Lib.hid (D56.out.below' hbw59)
  have C64 := Lib.hid (D57.out.below' hbw59)
  have hbel65 := hbel58.trans (hbw59.mono hbel58.size)
  clear D53 D54 D55 D56 D57 hbw59 hbel58
  have Z67 := Lib.hid (Blk.new w59 25 (natsV .u64 (zeros 4)))
  have hz68 := Lib.hid (below_setRow' (hbel65.alloc hbel65.size (.cells (natsV .u64 (zeros 4)).toArray 25)) hbel65.size (natsV .u64 ld).toArray)
  have Y69 := Lib.hid ((C60.out.alloc (.cells (natsV .u64 (zeros 4)).toArray 25)).row (natsV .u64 ld).toArray (Nat.ne_of_lt C60.out.lt))
  have Y70 := Lib.hid ((C61.out.alloc (.cells (natsV .u64 (zeros 4)).toArray 25)).row (natsV .u64 ld).toArray (Nat.ne_of_lt C61.out.lt))
  have Y71 := Lib.hid ((C62.out.alloc (.cells (natsV .u64 (zeros 4)).toArray 25)).row (natsV .u64 ld).toArray (Nat.ne_of_lt C62.out.lt))
  have Y72 := Lib.hid ((C63.out.alloc (.cells (natsV .u64 (zeros 4)).toArray 25)).row (natsV .u64 ld).toArray (Nat.ne_of_lt C63.out.lt))
  have Y73 := Lib.hid ((C64.out.alloc (.cells (natsV .u64 (zeros 4)).toArray 25)).row (natsV .u64 ld).toArray (Nat.ne_of_lt C64.out.lt))
  have Y74 := Lib.hid (Z67.out.setRow (natsV .u64 ld))
  have q1 := Q1.out
  have q2 := Q2.out
  clear Q1 Q2
  go_wp2_with (first | (refine st25 rfl (.tmp 12) (.tmp 37) rfl w59.heap.size rfl ld rfl LD.out (zeros 4) Z67.out rfl ?_; generalize hW : World.setRow _ _ _ = w66; have D76 := Lib.hid (show Blk w66 w.heap.size 25 (natsV .u64 la) from (by rw [← hW]; exact Y69.out)); have D77 := Lib.hid (show Blk w66 (w.heap.size + 1) 25 (natsV .u64 lb) from (by rw [← hW]; exact Y70.out)); have D78 := Lib.hid (show Blk w66 G15 25 (natsV .u64 ls) from (by rw [← hW]; exact Y71.out)); have D79 := Lib.hid (show Blk w66 G32 25 (natsV .u64 ld) from (by rw [← hW]; exact Y72.out)); have D80 := Lib.hid (show Blk w66 G52 25 (natsV .u64 ls) from (by rw [← hW]; exact Y73.out)); have D81 := Lib.hid (show Blk w66 w59.heap.size 25 (natsV .u64 ld) from (by rw [← hW]; exact Y74.out)); have hbel82 : Below w.heap.size w w66 := (by rw [← hW]; exact hz68.out); clear hW Z67 hz68 C60 C61 C62 C63 C64 Y69 Y70 Y71 Y72 Y73 Y74 hbel65; generalize w59.heap.size = G75 at *) | (refine ldw 25 (.tmp 6) rfl G15 rfl .u64 ls D78.out _ _ Try.underlying25 (by rw [info25, LS.out]) 1 rfl 40 rfl rfl ?_) | (refine ldw 25 (.tmp 10) rfl G52 rfl .u64 ls D80.out _ _ Try.underlying25 (by rw [info25, LS.out]) 1 rfl 40 rfl rfl ?_) | (refine ldw 25 (.tmp 8) rfl G32 rfl .u64 ld D79.out _ _ Try.underlying25 (by rw [info25, LD.out]) 11 rfl 50 rfl rfl ?_) | (refine ldw 25 (.tmp 12) rfl G75 rfl .u64 ld D81.out _ _ Try.underlying25 (by rw [info25, LD.out]) 11 rfl 50 rfl rfl ?_; as_aux_lemma => (go_wp2_with fail; go_ret; exact ⟨rfl, hbel82⟩)))
end Go.Proofs.Ytmibkgdfgaiedaa
