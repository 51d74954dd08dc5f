/- WideAlgebra answers true for any three numbers. No condition. -/
import Derived.Test.YtmibkgdfgaiedaaAl
import Derived.Test.YtmibkgdfgaiedaaAw
import Derived.Test.YtmibkgdfgaiedaaG
import Derived.Deep.DeepCutAuto
namespace Go.Proofs.Ytmibkgdfgaiedaa
open Go.RowKit
set_option linter.unusedVariables false
set_option linter.unusedSimpArgs false
set_option maxRecDepth 100000 in
set_option maxHeartbeats 1600000 in
theorem alg_zero (a b c : Nat) (w : World) (ha : a < 2 ^ 256) (hb : b < 2 ^ 256) (hc : c < 2 ^ 256) (h0 : c = 0) :
    Calls Try.prog 8 #[.agg (natsV .u64 (wds 4 a)).toArray, .agg (natsV .u64 (wds 4 b)).toArray, .agg (natsV .u64 (wds 4 c)).toArray] w fun e w' => e = .returned (.bool true) ∧ Below w.heap.size w w' := by
  obtain ⟨lx, lp, ls, l3, lw, l3h, lpl, lph, l4, l4l, l4h, kk, k3, k5, h1, h2, h3, h4, h5, h6, h7, h8, h9, e1, e2, e3, c1, c2, c3, c4, c5, c6, c7, c8, c9, c10, c11, c12⟩ := alg1 a b c ha hb hc
  clear e1 e2 e3
  have H1_ := Lib.hid h1
  have H2_ := Lib.hid h2
  have H3_ := Lib.hid h3
  have H4_ := Lib.hid h4
  have H5_ := Lib.hid h5
  have H6_ := Lib.hid h6
  have H7_ := Lib.hid h7
  have H8_ := Lib.hid h8
  have H9_ := Lib.hid h9
  have C1_ := Lib.hid c1
  have C2_ := Lib.hid c2
  have C3_ := Lib.hid c3
  have C4_ := Lib.hid c4
  have C5_ := Lib.hid c5
  have C6_ := Lib.hid c6
  have C7_ := Lib.hid c7
  have C8_ := Lib.hid c8
  have C9_ := Lib.hid c9
  have C10_ := Lib.hid c10
  have C11_ := Lib.hid c11
  have C12_ := Lib.hid c12
  clear h1 h2 h3 h4 h5 h6 h7 h8 h9 c1 c2 c3 c4 c5 c6 c7 c8 c9 c10 c11 c12
  have LA := Lib.hid (wds_len 4 a)
  have LB := Lib.hid (wds_len 4 b)
  have LC := Lib.hid (wds_len 4 c)
  have Q0 := Lib.hid (fun w => show (binOp .eql 25 (.agg (natsV .u64 (wds 4 c)).toArray) (.agg #[.int .u64 0, .int .u64 0, .int .u64 0, .int .u64 0])).run Try.prog w = .ok (.bool true) w from by
    rw [num_lit0, eql25 _ _ (wds_len 4 c) (wds_len 4 0), wds_inj 4 c 0 (by exact hc) (by decide), decide_eq_true h0])
  have QE := Lib.hid (fun (l : List Nat) (h : l.length = 4) w => show (binOp .eql 25 (.agg (natsV .u64 l).toArray) (.agg (natsV .u64 l).toArray)).run Try.prog w = .ok (.bool true) w from (eql25 l l h h w).trans (by simp))
  have Q8 := Lib.hid (fun w => show (binOp .eql 42 (.agg (natsV .u64 lp).toArray) (.agg (natsV .u64 lp).toArray)).run Try.prog w = .ok (.bool true) w from (eql42 lp lp H2_.out H2_.out w).trans (by simp))
  have QZ := Lib.hid (fun w => show (binOp .eql 25 (.agg (natsV .u64 (zeros 4)).toArray) (.agg #[.int .u64 0, .int .u64 0, .int .u64 0, .int .u64 0])).run Try.prog w = .ok (.bool true) w from (QE.out (zeros 4) rfl w))
  clear ha hb hc h0
  generalize wds 4 a = la at *
  generalize wds 4 b = lb at *
  generalize wds 4 c = lc at *
  have i42p : (Try.prog.info? 42).map (·.size) = some (natsV .u64 lp).length := by rw [info42, natsV_length, H2_.out]
  have i25a : (Try.prog.info? 25).map (·.size) = some (natsV .u64 la).length := by rw [info25, natsV_length, LA.out]
  have i25b : (Try.prog.info? 25).map (·.size) = some (natsV .u64 lb).length := by rw [info25, natsV_length, LB.out]
  have B1 := Lib.hid (((Blk.new w 25 (natsV .u64 la)).alloc (.cells (natsV .u64 lb).toArray 25)).alloc (.cells (natsV .u64 lc).toArray 25))
  have B2 := Lib.hid ((Blk.new2 w (.cells (natsV .u64 la).toArray 25) 25 (natsV .u64 lb)).alloc (.cells (natsV .u64 lc).toArray 25))
  have B3 := Lib.hid (Blk.new3 w (.cells (natsV .u64 la).toArray 25) (.cells (natsV .u64 lb).toArray 25) 25 (natsV .u64 lc))
  have BEL := Lib.hid ((((Below.refl w.heap.size w).alloc (Nat.le_refl _) (.cells (natsV .u64 la).toArray 25)).alloc (by simp) (.cells (natsV .u64 lb).toArray 25)).alloc (by simp; omega) (.cells (natsV .u64 lc).toArray 25))
  go_enter Try.func8, Try.ntmps8
  go_wp2_with fail
  refine (awake_any _).mono ?_
  rintro e w1 ⟨rfl, hbw1⟩
  have C2 := Lib.hid (B1.out.below' hbw1)
  have C3 := Lib.hid (B2.out.below' hbw1)
  have C4 := Lib.hid (B3.out.below' hbw1)
  have hbel5 := BEL.out.trans (hbw1.mono BEL.out.size)
  clear B1 B2 B3 hbw1
  go_wp2_with (first | (refine ld25 rfl (.tmp 3) rfl w.heap.size rfl la C2.out LA.out ?_) | (refine ld25 rfl (.tmp 4) rfl (w.heap.size + 1) rfl lb C3.out LB.out ?_))
  refine (C1_.out _).mono ?_
  rintro e w6 ⟨rfl, hbw6⟩
  have C7 := Lib.hid (C2.out.below' hbw6)
  have C8 := Lib.hid (C3.out.below' hbw6)
  have C9 := Lib.hid (C4.out.below' hbw6)
  have hbel10 := hbel5.trans (hbw6.mono hbel5.size)
  clear C2 C3 C4 hbw6 hbel5
  have Z12 := Lib.hid (Blk.new w6 25 (natsV .u64 (zeros 4)))
  have hz13 := Lib.hid (below_setRow' (hbel10.alloc hbel10.size (.cells (natsV .u64 (zeros 4)).toArray 25)) hbel10.size (natsV .u64 lx).toArray)
  have Y14 := Lib.hid ((C7.out.alloc (.cells (natsV .u64 (zeros 4)).toArray 25)).row (natsV .u64 lx).toArray (Nat.ne_of_lt C7.out.lt))
  have Y15 := Lib.hid ((C8.out.alloc (.cells (natsV .u64 (zeros 4)).toArray 25)).row (natsV .u64 lx).toArray (Nat.ne_of_lt C8.out.lt))
  have Y16 := Lib.hid ((C9.out.alloc (.cells (natsV .u64 (zeros 4)).toArray 25)).row (natsV .u64 lx).toArray (Nat.ne_of_lt C9.out.lt))
  have Y17 := Lib.hid (Z12.out.setRow (natsV .u64 lx))
  go_wp2_with (first | (refine st25 rfl (.tmp 8) (.tmp 50) rfl w6.heap.size rfl lx rfl H1_.out (zeros 4) Z12.out rfl ?_; generalize hW : World.setRow _ _ _ = w11; have D19 := Lib.hid (show Blk w11 w.heap.size 25 (natsV .u64 la) from (by rw [← hW]; exact Y14.out)); have D20 := Lib.hid (show Blk w11 (w.heap.size + 1) 25 (natsV .u64 lb) from (by rw [← hW]; exact Y15.out)); have D21 := Lib.hid (show Blk w11 (w.heap.size + 1 + 1) 25 (natsV .u64 lc) from (by rw [← hW]; exact Y16.out)); have D22 := Lib.hid (show Blk w11 w6.heap.size 25 (natsV .u64 lx) from (by rw [← hW]; exact Y17.out)); have hbel23 : Below w.heap.size w w11 := (by rw [← hW]; exact hz13.out); clear hW Z12 hz13 C7 C8 C9 Y14 Y15 Y16 Y17 hbel10; generalize w6.heap.size = G18 at *) | (refine ld25 rfl (.tmp 4) rfl (w.heap.size + 1) rfl lb D20.out LB.out ?_) | (refine ld25 rfl (.tmp 3) rfl w.heap.size rfl la D19.out LA.out ?_))
  refine (C2_.out _).mono ?_
  rintro e w24 ⟨rfl, hbw24⟩
  have C25 := Lib.hid (D19.out.below' hbw24)
  have C26 := Lib.hid (D20.out.below' hbw24)
  have C27 := Lib.hid (D21.out.below' hbw24)
  have C28 := Lib.hid (D22.out.below' hbw24)
  have hbel29 := hbel23.trans (hbw24.mono hbel23.size)
  clear D19 D20 D21 D22 hbw24 hbel23
  have Z31 := Lib.hid (Blk.new w24 25 (natsV .u64 (zeros 4)))
  have hz32 := Lib.hid (below_setRow' (hbel29.alloc hbel29.size (.cells (natsV .u64 (zeros 4)).toArray 25)) hbel29.size (natsV .u64 lx).toArray)
  have Y33 := Lib.hid ((C25.out.alloc (.cells (natsV .u64 (zeros 4)).toArray 25)).row (natsV .u64 lx).toArray (Nat.ne_of_lt C25.out.lt))
  have Y34 := Lib.hid ((C26.out.alloc (.cells (natsV .u64 (zeros 4)).toArray 25)).row (natsV .u64 lx).toArray (Nat.ne_of_lt C26.out.lt))
  have Y35 := Lib.hid ((C27.out.alloc (.cells (natsV .u64 (zeros 4)).toArray 25)).row (natsV .u64 lx).toArray (Nat.ne_of_lt C27.out.lt))
  have Y36 := Lib.hid ((C28.out.alloc (.cells (natsV .u64 (zeros 4)).toArray 25)).row (natsV .u64 lx).toArray (Nat.ne_of_lt C28.out.lt))
  have Y37 := Lib.hid (Z31.out.setRow (natsV .u64 lx))
  go_wp2_with (first | (refine st25 rfl (.tmp 10) (.tmp 56) rfl w24.heap.size rfl lx rfl H1_.out (zeros 4) Z31.out rfl ?_; generalize hW : World.setRow _ _ _ = w30; have D39 := Lib.hid (show Blk w30 w.heap.size 25 (natsV .u64 la) from (by rw [← hW]; exact Y33.out)); have D40 := Lib.hid (show Blk w30 (w.heap.size + 1) 25 (natsV .u64 lb) from (by rw [← hW]; exact Y34.out)); have D41 := Lib.hid (show Blk w30 (w.heap.size + 1 + 1) 25 (natsV .u64 lc) from (by rw [← hW]; exact Y35.out)); have D42 := Lib.hid (show Blk w30 G18 25 (natsV .u64 lx) from (by rw [← hW]; exact Y36.out)); have D43 := Lib.hid (show Blk w30 w24.heap.size 25 (natsV .u64 lx) from (by rw [← hW]; exact Y37.out)); have hbel44 : Below w.heap.size w w30 := (by rw [← hW]; exact hz32.out); clear hW Z31 hz32 C25 C26 C27 C28 Y33 Y34 Y35 Y36 Y37 hbel29; generalize w24.heap.size = G38 at *) | (refine ld25 rfl (.tmp 8) rfl G18 rfl lx D42.out H1_.out ?_) | (refine ld25 rfl (.tmp 4) rfl (w.heap.size + 1) rfl lb D40.out LB.out ?_))
  refine (C3_.out _).mono ?_
  rintro e w45 ⟨rfl, hbw45⟩
  have C46 := Lib.hid (D39.out.below' hbw45)
  have C47 := Lib.hid (D40.out.below' hbw45)
  have C48 := Lib.hid (D41.out.below' hbw45)
  have C49 := Lib.hid (D42.out.below' hbw45)
  have C50 := Lib.hid (D43.out.below' hbw45)
  have hbel51 := hbel44.trans (hbw45.mono hbel44.size)
  clear D39 D40 D41 D42 D43 hbw45 hbel44
  have Z53 := Lib.hid (Blk.new w45 25 (natsV .u64 (zeros 4)))
  have hz54 := Lib.hid (below_setRow' (hbel51.alloc hbel51.size (.cells (natsV .u64 (zeros 4)).toArray 25)) hbel51.size (natsV .u64 la).toArray)
  have Y55 := Lib.hid ((C46.out.alloc (.cells (natsV .u64 (zeros 4)).toArray 25)).row (natsV .u64 la).toArray (Nat.ne_of_lt C46.out.lt))
  have Y56 := Lib.hid ((C47.out.alloc (.cells (natsV .u64 (zeros 4)).toArray 25)).row (natsV .u64 la).toArray (Nat.ne_of_lt C47.out.lt))
  have Y57 := Lib.hid ((C48.out.alloc (.cells (natsV .u64 (zeros 4)).toArray 25)).row (natsV .u64 la).toArray (Nat.ne_of_lt C48.out.lt))
  have Y58 := Lib.hid ((C49.out.alloc (.cells (natsV .u64 (zeros 4)).toArray 25)).row (natsV .u64 la).toArray (Nat.ne_of_lt C49.out.lt))
  have Y59 := Lib.hid ((C50.out.alloc (.cells (natsV .u64 (zeros 4)).toArray 25)).row (natsV .u64 la).toArray (Nat.ne_of_lt C50.out.lt))
  have Y60 := Lib.hid (Z53.out.setRow (natsV .u64 la))
  go_upto_region 5 with (first | (refine st25 rfl (.tmp 12) (.tmp 62) rfl w45.heap.size rfl la rfl LA.out (zeros 4) Z53.out rfl ?_; generalize hW : World.setRow _ _ _ = w52; have D62 := Lib.hid (show Blk w52 w.heap.size 25 (natsV .u64 la) from (by rw [← hW]; exact Y55.out)); have D63 := Lib.hid (show Blk w52 (w.heap.size + 1) 25 (natsV .u64 lb) from (by rw [← hW]; exact Y56.out)); have D64 := Lib.hid (show Blk w52 (w.heap.size + 1 + 1) 25 (natsV .u64 lc) from (by rw [← hW]; exact Y57.out)); have D65 := Lib.hid (show Blk w52 G18 25 (natsV .u64 lx) from (by rw [← hW]; exact Y58.out)); have D66 := Lib.hid (show Blk w52 G38 25 (natsV .u64 lx) from (by rw [← hW]; exact Y59.out)); have D67 := Lib.hid (show Blk w52 w45.heap.size 25 (natsV .u64 la) from (by rw [← hW]; exact Y60.out)); have hbel68 : Below w.heap.size w w52 := (by rw [← hW]; exact hz54.out); clear hW Z53 hz54 C46 C47 C48 C49 C50 Y55 Y56 Y57 Y58 Y59 Y60 hbel51; generalize w45.heap.size = G61 at *))
  go_cut [14] (fun v wx => v = .bool true ∧ wx = w52)
  case first =>
    have q1 := QE.out lx H1_.out
    have q2 := QE.out la LA.out
    go_wp2_with (first | (refine ld25 rfl (.tmp 8) rfl G18 rfl lx D65.out H1_.out ?_) | (refine ld25 rfl (.tmp 10) rfl G38 rfl lx D66.out H1_.out ?_) | (refine ldw 25 (.tmp 12) rfl G61 rfl .u64 la D67.out _ _ Try.underlying25 (by rw [info25, LA.out]) 8 rfl 72 rfl rfl ?_) | (refine ldw 25 (.tmp 3) rfl w.heap.size rfl .u64 la D62.out _ _ Try.underlying25 (by rw [info25, LA.out]) 8 rfl 72 rfl rfl ?_; as_aux_lemma => (go_wp2_with fail; go_meet; exact ⟨rfl, rfl⟩)))
  case rest =>
  obtain ⟨rfl, rfl⟩ := hcut
  clear D65 D66 D67
  go_wp2_with (first | (refine ld25 rfl (.tmp 3) rfl w.heap.size rfl la D62.out LA.out ?_) | (refine ld25 rfl (.tmp 4) rfl (w.heap.size + 1) rfl lb D63.out LB.out ?_))
  refine (C4_.out _).mono ?_
  rintro e w69 ⟨rfl, hbw69⟩
  have C70 := Lib.hid (D62.out.below' hbw69)
  have C71 := Lib.hid (D63.out.below' hbw69)
  have C72 := Lib.hid (D64.out.below' hbw69)
  have hbel73 := hbel68.trans (hbw69.mono hbel68.size)
  clear D62 D63 D64 hbw69 hbel68
  have Z75 := Lib.hid (Blk.new w69 42 (natsV .u64 (zeros 8)))
  have hz76 := Lib.hid (below_setRow' (hbel73.alloc hbel73.size (.cells (natsV .u64 (zeros 8)).toArray 42)) hbel73.size (natsV .u64 lp).toArray)
  have Y77 := Lib.hid ((C70.out.alloc (.cells (natsV .u64 (zeros 8)).toArray 42)).row (natsV .u64 lp).toArray (Nat.ne_of_lt C70.out.lt))
  have Y78 := Lib.hid ((C71.out.alloc (.cells (natsV .u64 (zeros 8)).toArray 42)).row (natsV .u64 lp).toArray (Nat.ne_of_lt C71.out.lt))
  have Y79 := Lib.hid ((C72.out.alloc (.cells (natsV .u64 (zeros 8)).toArray 42)).row (natsV .u64 lp).toArray (Nat.ne_of_lt C72.out.lt))
  have Y80 := Lib.hid (Z75.out.setRow (natsV .u64 lp))
  go_wp2_with (first | (refine st42 rfl (.tmp 15) (.tmp 84) rfl w69.heap.size rfl lp rfl H2_.out (zeros 8) Z75.out rfl ?_; generalize hW : World.setRow _ _ _ = w74; have D82 := Lib.hid (show Blk w74 w.heap.size 25 (natsV .u64 la) from (by rw [← hW]; exact Y77.out)); have D83 := Lib.hid (show Blk w74 (w.heap.size + 1) 25 (natsV .u64 lb) from (by rw [← hW]; exact Y78.out)); have D84 := Lib.hid (show Blk w74 (w.heap.size + 1 + 1) 25 (natsV .u64 lc) from (by rw [← hW]; exact Y79.out)); have D85 := Lib.hid (show Blk w74 w69.heap.size 42 (natsV .u64 lp) from (by rw [← hW]; exact Y80.out)); have hbel86 : Below w.heap.size w w74 := (by rw [← hW]; exact hz76.out); clear hW Z75 hz76 C70 C71 C72 Y77 Y78 Y79 Y80 hbel73; generalize w69.heap.size = G81 at *))
  refine wp_region_held_drew (S := (fun w' => w'.rangeAt G81 0 (natsV .u64 lp) ∧ w'.rangeAt (w.heap.size + 1) 0 (natsV .u64 lb) ∧ w'.rangeAt w.heap.size 0 (natsV .u64 la))) (by kernel_rfl) ⟨blk_rangeV D85.out.drew, blk_rangeV D83.out.drew, blk_rangeV D82.out.drew⟩ (fun hHeld => ?_)
  refine wpAnyH_take (i := 0) (oi := _) (v := _) rfl (by kernel_rfl) (by kernel_rfl) (by kernel_rfl) (fun _ _ _ h => h) (yieldsIf_load_mid (by rfl) _ _ rfl _ _ rfl _ _ (by intro w hSw; exact hSw.1) Try.underlying42 rfl i42p) hHeld ?_
  try simp only [Act.put, List.getElem_toArray, List.getElem_cons_succ, List.getElem_cons_zero, List.setIfInBounds_toArray, List.set_cons_zero, List.set_cons_succ]
  refine wpAnyH_take (i := 1) (oi := _) (v := _) rfl (by kernel_rfl) (by kernel_rfl) (by kernel_rfl) (fun _ _ _ h => h) (yieldsIf_load_mid (by rfl) _ _ rfl _ _ rfl _ _ (by intro w hSw; exact hSw.2.1) Try.underlying25 rfl i25b) hHeld ?_
  try simp only [Act.put, List.getElem_toArray, List.getElem_cons_succ, List.getElem_cons_zero, List.setIfInBounds_toArray, List.set_cons_zero, List.set_cons_succ]
  refine wpAnyH_take (i := 2) (oi := _) (v := _) rfl (by kernel_rfl) (by kernel_rfl) (by kernel_rfl) (fun _ _ _ h => h) (yieldsIf_load_mid (by rfl) _ _ rfl _ _ rfl _ _ (by intro w hSw; exact hSw.2.2) Try.underlying25 rfl i25a) hHeld ?_
  try simp only [Act.put, List.getElem_toArray, List.getElem_cons_succ, List.getElem_cons_zero, List.setIfInBounds_toArray, List.set_cons_zero, List.set_cons_succ]
  refine wpAnyH_ready (rs := [3]) (by kernel_rfl) (by simp) ?_
  refine AllReadyH.cons (o := _) rfl (fun K hK => ?_) AllReadyH.nil
  go_simp
  go_at_call 28
  refine (C5_.out _).mono ?_
  rintro e wx7 ⟨rfl, hbx7⟩
  refine hK.out _ _ (keepR3 hbx7 hHeld) (fun hHeld2 => ?_)
  clear hK K hHeld
  have hHeld := hHeld2
  clear hHeld2
  try simp only [Act.put, List.getElem_toArray, List.getElem_cons_succ, List.getElem_cons_zero, List.setIfInBounds_toArray, List.set_cons_zero, List.set_cons_succ]
  have q := Q8.out
  refine wpAnyH_take (i := 4) (oi := _) (v := _) rfl (by kernel_rfl) (by kernel_rfl) (by kernel_rfl) (fun _ _ _ h => h) (Or.inl ⟨by rfl, by intro w hSw; (try dsimp only at hSw); go_simp; first | done | with_reducible rfl⟩) hHeld ?_
  try simp only [Act.put, List.getElem_toArray, List.getElem_cons_succ, List.getElem_cons_zero, List.setIfInBounds_toArray, List.set_cons_zero, List.set_cons_succ]
  clear q
  refine wpAnyH_take (i := 5) (oi := _) (v := _) rfl (by kernel_rfl) (by kernel_rfl) (by kernel_rfl) (fun _ _ _ h => h) (Or.inl ⟨by rfl, by intro w hSw; (try dsimp only at hSw); go_simp; first | done | with_reducible rfl⟩) hHeld ?_
  try simp only [Act.put, List.getElem_toArray, List.getElem_cons_succ, List.getElem_cons_zero, List.setIfInBounds_toArray, List.set_cons_zero, List.set_cons_succ]
  refine wpAnyH_done (by kernel_rfl) ?_ _
  have E87 := Lib.hid (D82.out.drew.below' hbx7)
  have E88 := Lib.hid (D83.out.drew.below' hbx7)
  have E89 := Lib.hid (D84.out.drew.below' hbx7)
  have E90 := Lib.hid (D85.out.drew.below' hbx7)
  have hbel91 := hbel86.drew.trans (hbx7.mono hbel86.drew.size)
  clear hHeld hbx7 D82 D83 D84 D85 hbel86
  go_wp2_with (first | (refine ld25 rfl (.tmp 4) rfl (w.heap.size + 1) rfl lb E88.out LB.out ?_) | (refine ld25 rfl (.tmp 5) rfl (w.heap.size + 1 + 1) rfl lc E89.out LC.out ?_))
  refine (C6_.out _).mono ?_
  rintro e w92 ⟨rfl, hbw92⟩
  have C93 := Lib.hid (E87.out.below' hbw92)
  have C94 := Lib.hid (E88.out.below' hbw92)
  have C95 := Lib.hid (E89.out.below' hbw92)
  have C96 := Lib.hid (E90.out.below' hbw92)
  have hbel97 := hbel91.trans (hbw92.mono hbel91.size)
  clear E87 E88 E89 E90 hbw92 hbel91
  have Z99 := Lib.hid (Blk.new w92 25 (natsV .u64 (zeros 4)))
  have hz100 := Lib.hid (below_setRow' (hbel97.alloc hbel97.size (.cells (natsV .u64 (zeros 4)).toArray 25)) hbel97.size (natsV .u64 ls).toArray)
  have Y101 := Lib.hid ((C93.out.alloc (.cells (natsV .u64 (zeros 4)).toArray 25)).row (natsV .u64 ls).toArray (Nat.ne_of_lt C93.out.lt))
  have Y102 := Lib.hid ((C94.out.alloc (.cells (natsV .u64 (zeros 4)).toArray 25)).row (natsV .u64 ls).toArray (Nat.ne_of_lt C94.out.lt))
  have Y103 := Lib.hid ((C95.out.alloc (.cells (natsV .u64 (zeros 4)).toArray 25)).row (natsV .u64 ls).toArray (Nat.ne_of_lt C95.out.lt))
  have Y104 := Lib.hid ((C96.out.alloc (.cells (natsV .u64 (zeros 4)).toArray 25)).row (natsV .u64 ls).toArray (Nat.ne_of_lt C96.out.lt))
  have Y105 := Lib.hid (Z99.out.setRow (natsV .u64 ls))
  go_wp2_with (first | (refine st25 rfl (.tmp 17) (.tmp 94) rfl w92.heap.size rfl ls rfl H3_.out (zeros 4) Z99.out rfl ?_; generalize hW : World.setRow _ _ _ = w98; have D107 := Lib.hid (show Blk w98 w.heap.size 25 (natsV .u64 la) from (by rw [← hW]; exact Y101.out)); have D108 := Lib.hid (show Blk w98 (w.heap.size + 1) 25 (natsV .u64 lb) from (by rw [← hW]; exact Y102.out)); have D109 := Lib.hid (show Blk w98 (w.heap.size + 1 + 1) 25 (natsV .u64 lc) from (by rw [← hW]; exact Y103.out)); have D110 := Lib.hid (show Blk w98 G81 42 (natsV .u64 lp) from (by rw [← hW]; exact Y104.out)); have D111 := Lib.hid (show Blk w98 w92.heap.size 25 (natsV .u64 ls) from (by rw [← hW]; exact Y105.out)); have hbel112 : Below w.heap.size w w98 := (by rw [← hW]; exact hz100.out); clear hW Z99 hz100 C93 C94 C95 C96 Y101 Y102 Y103 Y104 Y105 hbel97; generalize w92.heap.size = G106 at *) | (refine ld25 rfl (.tmp 3) rfl w.heap.size rfl la D107.out LA.out ?_) | (refine ld25 rfl (.tmp 17) rfl G106 rfl ls D111.out H3_.out ?_))
  refine (C7_.out _).mono ?_
  rintro e w113 ⟨rfl, hbw113⟩
  have C114 := Lib.hid (D107.out.below' hbw113)
  have C115 := Lib.hid (D108.out.below' hbw113)
  have C116 := Lib.hid (D109.out.below' hbw113)
  have C117 := Lib.hid (D110.out.below' hbw113)
  have C118 := Lib.hid (D111.out.below' hbw113)
  have hbel119 := hbel112.trans (hbw113.mono hbel112.size)
  clear D107 D108 D109 D110 D111 hbw113 hbel112
  clear C115 C118
  go_wp2_with fail
  refine (C8_.out _).mono ?_
  rintro e w120 ⟨rfl, hbw120⟩
  have C121 := Lib.hid (C114.out.below' hbw120)
  have C122 := Lib.hid (C116.out.below' hbw120)
  have C123 := Lib.hid (C117.out.below' hbw120)
  have hbel124 := hbel119.trans (hbw120.mono hbel119.size)
  clear C114 C116 C117 hbw120 hbel119
  have Z126 := Lib.hid ((Blk.new w120 25 (natsV .u64 (zeros 4))).alloc (.cells (natsV .u64 (zeros 4)).toArray 25))
  have Z127 := Lib.hid (Blk.new2 w120 (.cells (natsV .u64 (zeros 4)).toArray 25) 25 (natsV .u64 (zeros 4)))
  have Z128 := Lib.hid (Z127.out.row (natsV .u64 lw).toArray (show w120.heap.size + 1 ≠ w120.heap.size by omega))
  have hz129 := Lib.hid (below_setRow' (below_setRow' ((hbel124.alloc hbel124.size (.cells (natsV .u64 (zeros 4)).toArray 25)).alloc (by have := hbel124.size; simp; omega) (.cells (natsV .u64 (zeros 4)).toArray 25)) hbel124.size (natsV .u64 lw).toArray) (show w.heap.size ≤ w120.heap.size + 1 by have := hbel124.size; omega) (natsV .u64 l3h).toArray)
  have Y130 := Lib.hid ((((C121.out.alloc (.cells (natsV .u64 (zeros 4)).toArray 25)).alloc (.cells (natsV .u64 (zeros 4)).toArray 25)).row (natsV .u64 lw).toArray (Nat.ne_of_lt C121.out.lt)).row (natsV .u64 l3h).toArray (show w.heap.size ≠ w120.heap.size + 1 by have := C121.out.lt; omega))
  have Y131 := Lib.hid ((((C122.out.alloc (.cells (natsV .u64 (zeros 4)).toArray 25)).alloc (.cells (natsV .u64 (zeros 4)).toArray 25)).row (natsV .u64 lw).toArray (Nat.ne_of_lt C122.out.lt)).row (natsV .u64 l3h).toArray (show (w.heap.size + 1 + 1) ≠ w120.heap.size + 1 by have := C122.out.lt; omega))
  have Y132 := Lib.hid ((((C123.out.alloc (.cells (natsV .u64 (zeros 4)).toArray 25)).alloc (.cells (natsV .u64 (zeros 4)).toArray 25)).row (natsV .u64 lw).toArray (Nat.ne_of_lt C123.out.lt)).row (natsV .u64 l3h).toArray (show G81 ≠ w120.heap.size + 1 by have := C123.out.lt; omega))
  have Y133 := Lib.hid ((Z126.out.setRow (natsV .u64 lw)).row (natsV .u64 l3h).toArray (show w120.heap.size ≠ w120.heap.size + 1 by omega))
  have Y134 := Lib.hid (Z128.out.setRow (natsV .u64 l3h))
  go_wp2_with (first | (refine st25 rfl (.tmp 19) (.tmp 101) rfl w120.heap.size rfl lw rfl H4_.out (zeros 4) Z126.out rfl ?_) | (refine st25 rfl (.tmp 20) (.tmp 102) rfl (w120.heap.size + 1) rfl l3h rfl H5_.out (zeros 4) Z128.out rfl ?_; generalize hW : World.setRow _ _ _ = w125; have D136 := Lib.hid (show Blk w125 w.heap.size 25 (natsV .u64 la) from (by rw [← hW]; exact Y130.out)); have D137 := Lib.hid (show Blk w125 (w.heap.size + 1 + 1) 25 (natsV .u64 lc) from (by rw [← hW]; exact Y131.out)); have D138 := Lib.hid (show Blk w125 G81 42 (natsV .u64 lp) from (by rw [← hW]; exact Y132.out)); have D139 := Lib.hid (show Blk w125 w120.heap.size 25 (natsV .u64 lw) from (by rw [← hW]; exact Y133.out)); have D140 := Lib.hid (show Blk w125 (w120.heap.size + 1) 25 (natsV .u64 l3h) from (by rw [← hW]; exact Y134.out)); have hbel141 : Below w.heap.size w w125 := (by rw [← hW]; exact hz129.out); clear hW Z126 Z127 Z128 hz129 C121 C122 C123 Y130 Y131 Y132 Y133 Y134 hbel124; generalize w120.heap.size = G135 at *) | (refine ld42 rfl (.tmp 15) rfl G81 rfl lp D138.out H2_.out ?_))
  clear D140
  refine (C9_.out _).mono ?_
  rintro e w142 ⟨rfl, hbw142⟩
  have C143 := Lib.hid (D136.out.below' hbw142)
  have C144 := Lib.hid (D137.out.below' hbw142)
  have C145 := Lib.hid (D138.out.below' hbw142)
  have C146 := Lib.hid (D139.out.below' hbw142)
  have hbel147 := hbel141.trans (hbw142.mono hbel141.size)
  clear D136 D137 D138 D139 hbw142 hbel141
  have Z149 := Lib.hid ((Blk.new w142 25 (natsV .u64 (zeros 4))).alloc (.cells (natsV .u64 (zeros 4)).toArray 25))
  have Z150 := Lib.hid (Blk.new2 w142 (.cells (natsV .u64 (zeros 4)).toArray 25) 25 (natsV .u64 (zeros 4)))
  have Z151 := Lib.hid (Z150.out.row (natsV .u64 lpl).toArray (show w142.heap.size + 1 ≠ w142.heap.size by omega))
  have hz152 := Lib.hid (below_setRow' (below_setRow' ((hbel147.alloc hbel147.size (.cells (natsV .u64 (zeros 4)).toArray 25)).alloc (by have := hbel147.size; simp; omega) (.cells (natsV .u64 (zeros 4)).toArray 25)) hbel147.size (natsV .u64 lpl).toArray) (show w.heap.size ≤ w142.heap.size + 1 by have := hbel147.size; omega) (natsV .u64 lph).toArray)
  have Y153 := Lib.hid ((((C143.out.alloc (.cells (natsV .u64 (zeros 4)).toArray 25)).alloc (.cells (natsV .u64 (zeros 4)).toArray 25)).row (natsV .u64 lpl).toArray (Nat.ne_of_lt C143.out.lt)).row (natsV .u64 lph).toArray (show w.heap.size ≠ w142.heap.size + 1 by have := C143.out.lt; omega))
  have Y154 := Lib.hid ((((C144.out.alloc (.cells (natsV .u64 (zeros 4)).toArray 25)).alloc (.cells (natsV .u64 (zeros 4)).toArray 25)).row (natsV .u64 lpl).toArray (Nat.ne_of_lt C144.out.lt)).row (natsV .u64 lph).toArray (show (w.heap.size + 1 + 1) ≠ w142.heap.size + 1 by have := C144.out.lt; omega))
  have Y155 := Lib.hid ((((C145.out.alloc (.cells (natsV .u64 (zeros 4)).toArray 25)).alloc (.cells (natsV .u64 (zeros 4)).toArray 25)).row (natsV .u64 lpl).toArray (Nat.ne_of_lt C145.out.lt)).row (natsV .u64 lph).toArray (show G81 ≠ w142.heap.size + 1 by have := C145.out.lt; omega))
  have Y156 := Lib.hid ((((C146.out.alloc (.cells (natsV .u64 (zeros 4)).toArray 25)).alloc (.cells (natsV .u64 (zeros 4)).toArray 25)).row (natsV .u64 lpl).toArray (Nat.ne_of_lt C146.out.lt)).row (natsV .u64 lph).toArray (show G135 ≠ w142.heap.size + 1 by have := C146.out.lt; omega))
  have Y157 := Lib.hid ((Z149.out.setRow (natsV .u64 lpl)).row (natsV .u64 lph).toArray (show w142.heap.size ≠ w142.heap.size + 1 by omega))
  have Y158 := Lib.hid (Z151.out.setRow (natsV .u64 lph))
  go_wp2_with (first | (refine st25 rfl (.tmp 21) (.tmp 106) rfl w142.heap.size rfl lpl rfl H6_.out (zeros 4) Z149.out rfl ?_) | (refine st25 rfl (.tmp 22) (.tmp 107) rfl (w142.heap.size + 1) rfl lph rfl H7_.out (zeros 4) Z151.out rfl ?_; generalize hW : World.setRow _ _ _ = w148; have D160 := Lib.hid (show Blk w148 w.heap.size 25 (natsV .u64 la) from (by rw [← hW]; exact Y153.out)); have D161 := Lib.hid (show Blk w148 (w.heap.size + 1 + 1) 25 (natsV .u64 lc) from (by rw [← hW]; exact Y154.out)); have D162 := Lib.hid (show Blk w148 G81 42 (natsV .u64 lp) from (by rw [← hW]; exact Y155.out)); have D163 := Lib.hid (show Blk w148 G135 25 (natsV .u64 lw) from (by rw [← hW]; exact Y156.out)); have D164 := Lib.hid (show Blk w148 w142.heap.size 25 (natsV .u64 lpl) from (by rw [← hW]; exact Y157.out)); have D165 := Lib.hid (show Blk w148 (w142.heap.size + 1) 25 (natsV .u64 lph) from (by rw [← hW]; exact Y158.out)); have hbel166 : Below w.heap.size w w148 := (by rw [← hW]; exact hz152.out); clear hW Z149 Z150 Z151 hz152 C143 C144 C145 C146 Y153 Y154 Y155 Y156 Y157 Y158 hbel147; generalize w142.heap.size = G159 at *) | (refine ld25 rfl (.tmp 3) rfl w.heap.size rfl la D160.out LA.out ?_) | (refine ld25 rfl (.tmp 5) rfl (w.heap.size + 1 + 1) rfl lc D161.out LC.out ?_))
  clear D165 D160
  refine (C10_.out _).mono ?_
  rintro e w167 ⟨rfl, hbw167⟩
  have C168 := Lib.hid (D161.out.below' hbw167)
  have C169 := Lib.hid (D162.out.below' hbw167)
  have C170 := Lib.hid (D163.out.below' hbw167)
  have C171 := Lib.hid (D164.out.below' hbw167)
  have hbel172 := hbel166.trans (hbw167.mono hbel166.size)
  clear D161 D162 D163 D164 hbw167 hbel166
  go_wp2_with fail
  refine (C11_.out _).mono ?_
  rintro e w173 ⟨rfl, hbw173⟩
  have C174 := Lib.hid (C168.out.below' hbw173)
  have C175 := Lib.hid (C169.out.below' hbw173)
  have C176 := Lib.hid (C170.out.below' hbw173)
  have C177 := Lib.hid (C171.out.below' hbw173)
  have hbel178 := hbel172.trans (hbw173.mono hbel172.size)
  clear C168 C169 C170 C171 hbw173 hbel172
  have Z180 := Lib.hid ((Blk.new w173 25 (natsV .u64 (zeros 4))).alloc (.cells (natsV .u64 (zeros 4)).toArray 25))
  have Z181 := Lib.hid (Blk.new2 w173 (.cells (natsV .u64 (zeros 4)).toArray 25) 25 (natsV .u64 (zeros 4)))
  have Z182 := Lib.hid (Z181.out.row (natsV .u64 l4l).toArray (show w173.heap.size + 1 ≠ w173.heap.size by omega))
  have hz183 := Lib.hid (below_setRow' (below_setRow' ((hbel178.alloc hbel178.size (.cells (natsV .u64 (zeros 4)).toArray 25)).alloc (by have := hbel178.size; simp; omega) (.cells (natsV .u64 (zeros 4)).toArray 25)) hbel178.size (natsV .u64 l4l).toArray) (show w.heap.size ≤ w173.heap.size + 1 by have := hbel178.size; omega) (natsV .u64 l4h).toArray)
  have Y184 := Lib.hid ((((C174.out.alloc (.cells (natsV .u64 (zeros 4)).toArray 25)).alloc (.cells (natsV .u64 (zeros 4)).toArray 25)).row (natsV .u64 l4l).toArray (Nat.ne_of_lt C174.out.lt)).row (natsV .u64 l4h).toArray (show (w.heap.size + 1 + 1) ≠ w173.heap.size + 1 by have := C174.out.lt; omega))
  have Y185 := Lib.hid ((((C175.out.alloc (.cells (natsV .u64 (zeros 4)).toArray 25)).alloc (.cells (natsV .u64 (zeros 4)).toArray 25)).row (natsV .u64 l4l).toArray (Nat.ne_of_lt C175.out.lt)).row (natsV .u64 l4h).toArray (show G81 ≠ w173.heap.size + 1 by have := C175.out.lt; omega))
  have Y186 := Lib.hid ((((C176.out.alloc (.cells (natsV .u64 (zeros 4)).toArray 25)).alloc (.cells (natsV .u64 (zeros 4)).toArray 25)).row (natsV .u64 l4l).toArray (Nat.ne_of_lt C176.out.lt)).row (natsV .u64 l4h).toArray (show G135 ≠ w173.heap.size + 1 by have := C176.out.lt; omega))
  have Y187 := Lib.hid ((((C177.out.alloc (.cells (natsV .u64 (zeros 4)).toArray 25)).alloc (.cells (natsV .u64 (zeros 4)).toArray 25)).row (natsV .u64 l4l).toArray (Nat.ne_of_lt C177.out.lt)).row (natsV .u64 l4h).toArray (show G159 ≠ w173.heap.size + 1 by have := C177.out.lt; omega))
  have Y188 := Lib.hid ((Z180.out.setRow (natsV .u64 l4l)).row (natsV .u64 l4h).toArray (show w173.heap.size ≠ w173.heap.size + 1 by omega))
  have Y189 := Lib.hid (Z182.out.setRow (natsV .u64 l4h))
  go_wp2_with (first | (refine st25 rfl (.tmp 23) (.tmp 113) rfl w173.heap.size rfl l4l rfl H8_.out (zeros 4) Z180.out rfl ?_) | (refine st25 rfl (.tmp 24) (.tmp 114) rfl (w173.heap.size + 1) rfl l4h rfl H9_.out (zeros 4) Z182.out rfl ?_; generalize hW : World.setRow _ _ _ = w179; have D191 := Lib.hid (show Blk w179 (w.heap.size + 1 + 1) 25 (natsV .u64 lc) from (by rw [← hW]; exact Y184.out)); have D192 := Lib.hid (show Blk w179 G81 42 (natsV .u64 lp) from (by rw [← hW]; exact Y185.out)); have D193 := Lib.hid (show Blk w179 G135 25 (natsV .u64 lw) from (by rw [← hW]; exact Y186.out)); have D194 := Lib.hid (show Blk w179 G159 25 (natsV .u64 lpl) from (by rw [← hW]; exact Y187.out)); have D195 := Lib.hid (show Blk w179 w173.heap.size 25 (natsV .u64 l4l) from (by rw [← hW]; exact Y188.out)); have D196 := Lib.hid (show Blk w179 (w173.heap.size + 1) 25 (natsV .u64 l4h) from (by rw [← hW]; exact Y189.out)); have hbel197 : Below w.heap.size w w179 := (by rw [← hW]; exact hz183.out); clear hW Z180 Z181 Z182 hz183 C174 C175 C176 C177 Y184 Y185 Y186 Y187 Y188 Y189 hbel178; generalize w173.heap.size = G190 at *) | (refine ld25 rfl (.tmp 21) rfl G159 rfl lpl D194.out H6_.out ?_) | (refine ld25 rfl (.tmp 23) rfl G190 rfl l4l D195.out H8_.out ?_))
  clear D196 D194 D195
  refine (C12_.out _).mono ?_
  rintro e w198 ⟨rfl, hbw198⟩
  have C199 := Lib.hid (D191.out.below' hbw198)
  have C200 := Lib.hid (D192.out.below' hbw198)
  have C201 := Lib.hid (D193.out.below' hbw198)
  have hbel202 := hbel197.trans (hbw198.mono hbel197.size)
  clear D191 D192 D193 hbw198 hbel197
  have Z204 := Lib.hid (Blk.new w198 25 (natsV .u64 (zeros 4)))
  have hz205 := Lib.hid (below_setRow' (hbel202.alloc hbel202.size (.cells (natsV .u64 (zeros 4)).toArray 25)) hbel202.size (natsV .u64 lw).toArray)
  have Y206 := Lib.hid ((C199.out.alloc (.cells (natsV .u64 (zeros 4)).toArray 25)).row (natsV .u64 lw).toArray (Nat.ne_of_lt C199.out.lt))
  have Y207 := Lib.hid ((C200.out.alloc (.cells (natsV .u64 (zeros 4)).toArray 25)).row (natsV .u64 lw).toArray (Nat.ne_of_lt C200.out.lt))
  have Y208 := Lib.hid ((C201.out.alloc (.cells (natsV .u64 (zeros 4)).toArray 25)).row (natsV .u64 lw).toArray (Nat.ne_of_lt C201.out.lt))
  have Y209 := Lib.hid (Z204.out.setRow (natsV .u64 lw))
  have q1 := QE.out lw H4_.out
  have q0 := Q0.out
  go_wp2_with (first | (refine st25 rfl (.tmp 25) (.tmp 119) rfl w198.heap.size rfl lw rfl H4_.out (zeros 4) Z204.out rfl ?_; generalize hW : World.setRow _ _ _ = w203; have D211 := Lib.hid (show Blk w203 (w.heap.size + 1 + 1) 25 (natsV .u64 lc) from (by rw [← hW]; exact Y206.out)); have D212 := Lib.hid (show Blk w203 G81 42 (natsV .u64 lp) from (by rw [← hW]; exact Y207.out)); have D213 := Lib.hid (show Blk w203 G135 25 (natsV .u64 lw) from (by rw [← hW]; exact Y208.out)); have D214 := Lib.hid (show Blk w203 w198.heap.size 25 (natsV .u64 lw) from (by rw [← hW]; exact Y209.out)); have hbel215 : Below w.heap.size w w203 := (by rw [← hW]; exact hz205.out); clear hW Z204 hz205 C199 C200 C201 Y206 Y207 Y208 Y209 hbel202; generalize w198.heap.size = G210 at *) | (refine ld25 rfl (.tmp 19) rfl G135 rfl lw D213.out H4_.out ?_) | (refine ld25 rfl (.tmp 25) rfl G210 rfl lw D214.out H4_.out ?_) | (refine ld25 rfl (.tmp 5) rfl (w.heap.size + 1 + 1) rfl lc D211.out LC.out ?_; as_aux_lemma => (go_wp2_with fail; go_ret; exact ⟨rfl, hbel215⟩)))
end Go.Proofs.Ytmibkgdfgaiedaa
