/- WideBytes answers true for any bytes and any two numbers. No condition but what a list may take. -/
import Derived.Test.YtmibkgdfgaiedaaOb
import Derived.Test.YtmibkgdfgaiedaaRb
import Derived.Test.YtmibkgdfgaiedaaAw
import Derived.Test.YtmibkgdfgaiedaaG
namespace Go.Proofs.Ytmibkgdfgaiedaa
open Go.RowKit
set_option linter.unusedVariables false
set_option linter.unusedSimpArgs false
theorem neq25 (a b : List Nat) (ha : a.length = 4) (hb : b.length = 4) (w : World) : (binOp .neq 25 (.agg (natsV .u64 a).toArray) (.agg (natsV .u64 b).toArray)).run Try.prog w = .ok (.bool (!decide (a = b))) w := by
  cases hq : Try.prog.info? 23 with
  | none => have := info23; simp [hq] at this
  | some ti =>
    have hs : ti.size = 1 := by have := info23; simpa [hq] using this
    rw [run_neq_struct, run_equalIn_array w 9999 _ _ Try.underlying25 hq, cells23, eqItems_nats w 9998 23 .u64 Try.underlying23 (by rw [hq]; simp [hs]) a b (List.range 4) (fun i hi => by have := List.mem_range.1 hi; omega), items_eq a b 4 ha hb]
    rfl
theorem bin_blk {w : World} {G : Nat} {l : List Nat} (h : Blk w G 31 (natsV .u8 l)) (hl : l.length = 32) (hlt : ∀ x ∈ l, x < 256) : BIn w (some ⟨G, 0, none⟩) 32 32 l :=
  ⟨⟨hl, by decide, hlt, .inr ⟨G, 0, rfl, fun i hi => by rw [Nat.zero_add]; exact h.nat i (by rw [hl]; exact hi)⟩⟩, Nat.le_refl _, by decide, by decide, fun h => by cases h⟩
theorem range_keepG {w w' : World} {g : Nat} {vs : List Value} (h : w.rangeAt g 0 vs) (hb : Below w.heap.size w w') : w'.rangeAt g 0 vs := by
  intro j v hv
  have h1 := h j v hv
  exact (hb.cell (World.block_lt_of_cell? w _ h1)).trans h1
theorem blk_rangeG {w : World} {G : Nat} {t : TypeId} {vs : List Value} (h : Blk w G t vs) : w.rangeAt G 0 vs := by
  intro j v hv
  rw [Nat.zero_add, h.cell, hv]
theorem keepR4 {w w' : World} {g1 g2 g3 g4 : Nat} {a b c d : List Value} (hb : Below w.heap.size w w') (h : w.rangeAt g1 0 a ∧ w.rangeAt g2 0 b ∧ w.rangeAt g3 0 c ∧ w.rangeAt g4 0 d) : w'.rangeAt g1 0 a ∧ w'.rangeAt g2 0 b ∧ w'.rangeAt g3 0 c ∧ w'.rangeAt g4 0 d :=
  ⟨range_keepG h.1 hb, range_keepG h.2.1 hb, range_keepG h.2.2.1 hb, range_keepG h.2.2.2 hb⟩
set_option maxRecDepth 100000 in
set_option maxHeartbeats 6400000 in
theorem bytes_walk (A : Option Addr) (n c : Nat) (l : List Nat) (x y : Nat) (w : World) (h : BIn w A n c l) (hx : x < 2 ^ 256) (hy : y < 2 ^ 256) :
    Calls Try.prog 3 #[.slice A n c, .agg (natsV .u64 (wds 4 x)).toArray, .agg (natsV .u64 (wds 4 y)).toArray] w fun e w' => e = .returned (.bool true) ∧ Below w.heap.size w w' := by
  have HIN := Lib.hid h
  have hnle : n ≤ 140737488355328 := h.2.2.2.1
  clear h
  have HOF := Lib.hid (fun (w : World) (h : BIn w A n c l) => Of_any A n c l w hnle h)
  have HRO := Lib.hid (fun (hn : n = 32) (w : World) (h : BIn w A n c l) => show Calls Try.prog 11 #[.slice A n c] w fun e w' => e = .returned (.agg (natsV .u64 (wds 4 (ofV n l))).toArray) ∧ Below w.heap.size w w' from by subst hn; exact refOf_any A c l w h)
  have HOV := Lib.hid (fun (hn : n ≠ 32) => show wds 4 (ofV n l) = zeros 4 from by rw [show ofV n l = 0 from if_neg hn]; exact num_zero0)
  have HBX := Lib.hid (fun w => Bytes_any x w)
  have HBY := Lib.hid (fun w => Bytes_any y w)
  have HRB := Lib.hid (fun w => refBytes_any x w)
  have HCM := Lib.hid (fun w => Cmp_any x y w hx hy)
  have HRC := Lib.hid (fun w => refCmp_any x y w hx hy)
  have HOX := Lib.hid (fun (w : World) (g : Nat) (h : BIn w (some ⟨g, 0, none⟩) 32 32 (bytesOf_ x)) => Of_any (some ⟨g, 0, none⟩) 32 32 (bytesOf_ x) w (by omega) h)
  rw [show ofV 32 (bytesOf_ x) = x from be_bytesOf x hx, show ofE 32 = 0 from rfl] at HOX
  have LN := Lib.hid (wds_len 4 (ofV n l))
  have LX := Lib.hid (wds_len 4 x)
  have LY := Lib.hid (wds_len 4 y)
  have LU := Lib.hid (bytesOf_len x)
  have LV := Lib.hid (bytesOf_len y)
  have BU := Lib.hid (bytesOf_lt x)
  have AU := Lib.hid (fun i (hi : i < 32) => show (bytesOf_ x).getD i 0 = dgt 256 x (31 - i) from tell_getD _ _ _ hi)
  have AV := Lib.hid (fun i (hi : i < 32) => show (bytesOf_ y).getD i 0 = dgt 256 y (31 - i) from tell_getD _ _ _ hi)
  have HCF := Lib.hid (show cmpZ (x % 256 ^ 32) (y % 256 ^ 32) = cmpZ x y by rw [Nat.mod_eq_of_lt (by rw [show (256 : Nat) = 2 ^ 8 from rfl, ← Nat.pow_mul]; exact hx), Nat.mod_eq_of_lt (by rw [show (256 : Nat) = 2 ^ 8 from rfl, ← Nat.pow_mul]; exact hy)])
  have HC0 := Lib.hid (show cmpZ (x % 256 ^ (32 - 32)) (y % 256 ^ (32 - 32)) = 0 by simp [Nat.mod_one, cmpZ])
  have HST := Lib.hid (fun k => cmpZ_step 256 x y k (by decide))
  generalize cmpZ x y = cz at *
  generalize bytesOf_ x = lu at *
  generalize bytesOf_ y = lv at *
  generalize wds 4 (ofV n l) = ln at *
  generalize wds 4 x = lx at *
  generalize wds 4 y = ly at *
  have QN := Lib.hid (fun w => show (binOp .neq 25 (.agg (natsV .u64 ln).toArray) (.agg (natsV .u64 ln).toArray)).run Try.prog w = .ok (.bool false) w from (neq25 ln ln LN.out LN.out w).trans (by simp))
  have QX := Lib.hid (fun w => show (binOp .eql 25 (.agg (natsV .u64 lx).toArray) (.agg (natsV .u64 lx).toArray)).run Try.prog w = .ok (.bool true) w from (eql25 lx lx LX.out LX.out w).trans (by simp))
  have QU := Lib.hid (fun w => show (binOp .eql 31 (.agg (natsV .u8 lu).toArray) (.agg (natsV .u8 lu).toArray)).run Try.prog w = .ok (.bool true) w from (eql31 lu lu LU.out LU.out w).trans (by simp))
  have u25 := Try.underlying25
  have u31 := Try.underlying31
  have i25x : (Try.prog.info? 25).map (·.size) = some (natsV .u64 lx).length := by rw [info25, natsV_length, LX.out]
  have i25y : (Try.prog.info? 25).map (·.size) = some (natsV .u64 ly).length := by rw [info25, natsV_length, LY.out]
  have i25n : (Try.prog.info? 25).map (·.size) = some (natsV .u64 ln).length := by rw [info25, natsV_length, LN.out]
  have i31u : (Try.prog.info? 31).map (·.size) = some (natsV .u8 lu).length := by rw [info31, natsV_length, LU.out]
  have B1 := Lib.hid ((Blk.new w 25 (natsV .u64 lx)).alloc (.cells (natsV .u64 ly).toArray 25))
  have B2 := Lib.hid (Blk.new2 w (.cells (natsV .u64 lx).toArray 25) 25 (natsV .u64 ly))
  have BEL := Lib.hid (((Below.refl w.heap.size w).alloc (Nat.le_refl _) (.cells (natsV .u64 lx).toArray 25)).alloc (by simp) (.cells (natsV .u64 ly).toArray 25))
  go_enter Try.func3, Try.ntmps3
  go_wp2_with fail
  refine (awake_any _).mono ?_
  rintro e w1 ⟨rfl, hbw1⟩
  have C2 := Lib.hid (B1.out.below' hbw1)
  have C3 := Lib.hid (B2.out.below' hbw1)
  have hbel4 := BEL.out.trans (hbw1.mono BEL.out.size)
  clear B1 B2 hbw1
  go_wp2_with fail
  refine (HOF.out _ (HIN.out.below hbel4)).mono ?_
  rintro e w5 ⟨rfl, hbw5⟩
  have C6 := Lib.hid (C2.out.below' hbw5)
  have C7 := Lib.hid (C3.out.below' hbw5)
  have hbel8 := hbel4.trans (hbw5.mono hbel4.size)
  clear C2 C3 hbw5 hbel4
  have Z10 := Lib.hid (Blk.new w5 25 (natsV .u64 (zeros 4)))
  have hz11 := Lib.hid (below_setRow' (hbel8.alloc hbel8.size (.cells (natsV .u64 (zeros 4)).toArray 25)) hbel8.size (natsV .u64 ln).toArray)
  have Y12 := Lib.hid ((C6.out.alloc (.cells (natsV .u64 (zeros 4)).toArray 25)).row (natsV .u64 ln).toArray (Nat.ne_of_lt C6.out.lt))
  have Y13 := Lib.hid ((C7.out.alloc (.cells (natsV .u64 (zeros 4)).toArray 25)).row (natsV .u64 ln).toArray (Nat.ne_of_lt C7.out.lt))
  have Y14 := Lib.hid (Z10.out.setRow (natsV .u64 ln))
  by_cases h32 : n = 32
  · as_aux_lemma =>
    have hne : ((n : Int) != 32) = false := by rw [bne_eq_false_iff_eq]; omega
    have heq : ((n : Int) == 32) = true := by rw [beq_iff_eq]; omega
    have heq2 : (n : Int) = 32 := by omega
    have hoe : ofE n = 0 := if_pos h32
    rw [hoe]
    have HROx := Lib.hid (HRO.out h32)
    clear HRO HOV hoe heq2 h32
    go_wp2_with (first | (refine st25 rfl (.tmp 8) (.tmp 20) rfl w5.heap.size rfl ln rfl LN.out (zeros 4) Z10.out rfl ?_; generalize hW : World.setRow _ _ _ = w9; have D16 := Lib.hid (show Blk w9 w.heap.size 25 (natsV .u64 lx) from (by rw [← hW]; exact Y12.out)); have D17 := Lib.hid (show Blk w9 (w.heap.size + 1) 25 (natsV .u64 ly) from (by rw [← hW]; exact Y13.out)); have D18 := Lib.hid (show Blk w9 w5.heap.size 25 (natsV .u64 ln) from (by rw [← hW]; exact Y14.out)); have hbel19 : Below w.heap.size w w9 := (by rw [← hW]; exact hz11.out); clear hW Z10 hz11 C6 C7 Y12 Y13 Y14 hbel8; generalize w5.heap.size = G15 at *))
    refine wp_region_held_drew (S := (fun w' => w'.rangeAt G15 0 (natsV .u64 ln))) (by kernel_rfl) (blk_rangeG D18.out.drew) (fun hHeld => ?_)
    refine wpAnyH_take (i := 0) (oi := _) (v := _) rfl (by kernel_rfl) (by kernel_rfl) (by kernel_rfl) (fun _ _ _ h => h) (Or.inl ⟨by rfl, by intro w hSw; (try dsimp only at hSw); go_simp; first | done | with_reducible rfl⟩) hHeld ?_
    try simp only [Act.put, List.getElem_toArray, List.getElem_cons_succ, List.getElem_cons_zero, List.setIfInBounds_toArray, List.set_cons_zero, List.set_cons_succ]
    refine wpAnyH_take (i := 1) (oi := _) (v := _) rfl (by kernel_rfl) (by kernel_rfl) (by kernel_rfl) (fun _ _ _ h => h) (Or.inl ⟨by rfl, by intro w hSw; (try dsimp only at hSw); go_simp; first | done | with_reducible rfl⟩) hHeld ?_
    try simp only [Act.put, List.getElem_toArray, List.getElem_cons_succ, List.getElem_cons_zero, List.setIfInBounds_toArray, List.set_cons_zero, List.set_cons_succ]
    refine wpAnyH_take (i := 2) (oi := _) (v := _) rfl (by kernel_rfl) (by kernel_rfl) (by kernel_rfl) (fun _ _ _ h => h) (Or.inl ⟨by rfl, by intro w hSw; (try dsimp only at hSw); go_simp; first | done | with_reducible rfl⟩) hHeld ?_
    try simp only [Act.put, List.getElem_toArray, List.getElem_cons_succ, List.getElem_cons_zero, List.setIfInBounds_toArray, List.set_cons_zero, List.set_cons_succ]
    refine wpAnyH_take (i := 3) (oi := _) (v := _) rfl (by kernel_rfl) (by kernel_rfl) (by kernel_rfl) (fun _ _ _ h => h) (Or.inl ⟨by rfl, by intro w hSw; (try dsimp only at hSw); go_simp; first | done | with_reducible rfl⟩) hHeld ?_
    try simp only [Act.put, List.getElem_toArray, List.getElem_cons_succ, List.getElem_cons_zero, List.setIfInBounds_toArray, List.set_cons_zero, List.set_cons_succ]
    refine wpAnyH_take (i := 4) (oi := _) (v := _) rfl (by kernel_rfl) (by kernel_rfl) (by kernel_rfl) (fun _ _ _ h => h) (Or.inl ⟨by rfl, by intro w hSw; (try dsimp only at hSw); go_simp; first | done | with_reducible rfl⟩) hHeld ?_
    try simp only [Act.put, List.getElem_toArray, List.getElem_cons_succ, List.getElem_cons_zero, List.setIfInBounds_toArray, List.set_cons_zero, List.set_cons_succ]
    refine wpAnyH_take (i := 5) (oi := _) (v := _) rfl (by kernel_rfl) (by kernel_rfl) (by kernel_rfl) (fun _ _ _ h => h) (Or.inl ⟨by rfl, by intro w hSw; (try dsimp only at hSw); go_simp; first | done | with_reducible rfl⟩) hHeld ?_
    try simp only [Act.put, List.getElem_toArray, List.getElem_cons_succ, List.getElem_cons_zero, List.setIfInBounds_toArray, List.set_cons_zero, List.set_cons_succ]
    refine wpAnyH_take (i := 6) (oi := _) (v := _) rfl (by kernel_rfl) (by kernel_rfl) (by kernel_rfl) (fun _ _ _ h => h) (Or.inl ⟨by rfl, by intro w hSw; (try dsimp only at hSw); go_simp; first | done | with_reducible rfl⟩) hHeld ?_
    try simp only [Act.put, List.getElem_toArray, List.getElem_cons_succ, List.getElem_cons_zero, List.setIfInBounds_toArray, List.set_cons_zero, List.set_cons_succ]
    refine wpAnyH_take (i := 7) (oi := _) (v := _) rfl (by kernel_rfl) (by kernel_rfl) (by kernel_rfl) (fun _ _ _ h => h) (yieldsIf_load_mid (by rfl) _ _ rfl _ _ rfl _ _ (by intro w hSw; exact hSw) u25 rfl i25n) hHeld ?_
    try simp only [Act.put, List.getElem_toArray, List.getElem_cons_succ, List.getElem_cons_zero, List.setIfInBounds_toArray, List.set_cons_zero, List.set_cons_succ]
    refine wpAnyH_take (i := 8) (oi := _) (v := _) rfl (by kernel_rfl) (by kernel_rfl) (by kernel_rfl) (fun _ _ _ h => h) (Or.inl ⟨by rfl, by intro w hSw; (try dsimp only at hSw); go_simp; first | done | with_reducible rfl⟩) hHeld ?_
    try simp only [Act.put, List.getElem_toArray, List.getElem_cons_succ, List.getElem_cons_zero, List.setIfInBounds_toArray, List.set_cons_zero, List.set_cons_succ]
    have hbin := Lib.hid (HIN.out.below hbel19.drew)
    refine wpAnyH_ready (rs := [9]) (by kernel_rfl) (by simp) ?_
    refine AllReadyH.cons (o := _) rfl (fun K hK => ?_) AllReadyH.nil
    go_simp
    go_at_call 11
    refine (HROx.out _ hbin.out).mono ?_
    rintro e wx7 ⟨rfl, hbx7⟩
    refine hK.out _ _ (range_keepG hHeld hbx7) (fun hHeld2 => ?_)
    clear hK K hHeld
    have hHeld := hHeld2
    clear hHeld2
    try simp only [Act.put, List.getElem_toArray, List.getElem_cons_succ, List.getElem_cons_zero, List.setIfInBounds_toArray, List.set_cons_zero, List.set_cons_succ]
    have q := QN.out
    refine wpAnyH_take (i := 10) (oi := _) (v := _) rfl (by kernel_rfl) (by kernel_rfl) (by kernel_rfl) (fun _ _ _ h => h) (Or.inl ⟨by rfl, by intro w hSw; (try dsimp only at hSw); go_simp; first | done | with_reducible rfl⟩) hHeld ?_
    try simp only [Act.put, List.getElem_toArray, List.getElem_cons_succ, List.getElem_cons_zero, List.setIfInBounds_toArray, List.set_cons_zero, List.set_cons_succ]
    clear q
    refine wpAnyH_take (i := 11) (oi := _) (v := _) rfl (by kernel_rfl) (by kernel_rfl) (by kernel_rfl) (fun _ _ _ h => h) (Or.inl ⟨by rfl, by intro w hSw; (try dsimp only at hSw); go_simp; first | done | with_reducible rfl⟩) hHeld ?_
    try simp only [Act.put, List.getElem_toArray, List.getElem_cons_succ, List.getElem_cons_zero, List.setIfInBounds_toArray, List.set_cons_zero, List.set_cons_succ]
    refine wpAnyH_take (i := 12) (oi := _) (v := _) rfl (by kernel_rfl) (by kernel_rfl) (by kernel_rfl) (fun _ _ _ h => h) (Or.inl ⟨by rfl, by intro w hSw; (try dsimp only at hSw); go_simp; first | done | with_reducible rfl⟩) hHeld ?_
    try simp only [Act.put, List.getElem_toArray, List.getElem_cons_succ, List.getElem_cons_zero, List.setIfInBounds_toArray, List.set_cons_zero, List.set_cons_succ]
    refine wpAnyH_done (by kernel_rfl) ?_ _
    have E20 := Lib.hid (D16.out.drew.below' hbx7)
    have E21 := Lib.hid (D17.out.drew.below' hbx7)
    have E22 := Lib.hid (D18.out.drew.below' hbx7)
    have hbel23 := hbel19.drew.trans (hbx7.mono hbel19.drew.size)
    clear hHeld hbx7 hbin D16 D17 D18 hbel19
    go_wp2_with (first | (refine ld25 rfl (.tmp 4) rfl w.heap.size rfl lx E20.out LX.out ?_))
    refine (HBX.out _).mono ?_
    rintro e w24 ⟨rfl, hbw24⟩
    have C25 := Lib.hid (E20.out.below' hbw24)
    have C26 := Lib.hid (E21.out.below' hbw24)
    have C27 := Lib.hid (E22.out.below' hbw24)
    have hbel28 := hbel23.trans (hbw24.mono hbel23.size)
    clear E20 E21 E22 hbw24 hbel23
    have Z30 := Lib.hid (Blk.new w24 31 (natsV .u8 (zeros 32)))
    have hz31 := Lib.hid (below_setRow' (hbel28.alloc hbel28.size (.cells (natsV .u8 (zeros 32)).toArray 31)) hbel28.size (natsV .u8 lu).toArray)
    have Y32 := Lib.hid ((C25.out.alloc (.cells (natsV .u8 (zeros 32)).toArray 31)).row (natsV .u8 lu).toArray (Nat.ne_of_lt C25.out.lt))
    have Y33 := Lib.hid ((C26.out.alloc (.cells (natsV .u8 (zeros 32)).toArray 31)).row (natsV .u8 lu).toArray (Nat.ne_of_lt C26.out.lt))
    have Y34 := Lib.hid ((C27.out.alloc (.cells (natsV .u8 (zeros 32)).toArray 31)).row (natsV .u8 lu).toArray (Nat.ne_of_lt C27.out.lt))
    have Y35 := Lib.hid (Z30.out.setRow (natsV .u8 lu))
    go_wp2_with (first | (refine st31 rfl (.tmp 10) (.tmp 48) rfl w24.heap.size rfl lu rfl LU.out (zeros 32) Z30.out rfl ?_; generalize hW : World.setRow _ _ _ = w29; have D37 := Lib.hid (show Blk w29 w.heap.size 25 (natsV .u64 lx) from (by rw [← hW]; exact Y32.out)); have D38 := Lib.hid (show Blk w29 (w.heap.size + 1) 25 (natsV .u64 ly) from (by rw [← hW]; exact Y33.out)); have D39 := Lib.hid (show Blk w29 G15 25 (natsV .u64 ln) from (by rw [← hW]; exact Y34.out)); have D40 := Lib.hid (show Blk w29 w24.heap.size 31 (natsV .u8 lu) from (by rw [← hW]; exact Y35.out)); have hbel41 : Below w.heap.size w w29 := (by rw [← hW]; exact hz31.out); clear hW Z30 hz31 C25 C26 C27 Y32 Y33 Y34 Y35 hbel28; generalize w24.heap.size = G36 at *) | (refine ld25 rfl (.tmp 5) rfl (w.heap.size + 1) rfl ly D38.out LY.out ?_))
    refine (HBY.out _).mono ?_
    rintro e w42 ⟨rfl, hbw42⟩
    have C43 := Lib.hid (D37.out.below' hbw42)
    have C44 := Lib.hid (D38.out.below' hbw42)
    have C45 := Lib.hid (D39.out.below' hbw42)
    have C46 := Lib.hid (D40.out.below' hbw42)
    have hbel47 := hbel41.trans (hbw42.mono hbel41.size)
    clear D37 D38 D39 D40 hbw42 hbel41
    have Z49 := Lib.hid (Blk.new w42 31 (natsV .u8 (zeros 32)))
    have hz50 := Lib.hid (below_setRow' (hbel47.alloc hbel47.size (.cells (natsV .u8 (zeros 32)).toArray 31)) hbel47.size (natsV .u8 lv).toArray)
    have Y51 := Lib.hid ((C43.out.alloc (.cells (natsV .u8 (zeros 32)).toArray 31)).row (natsV .u8 lv).toArray (Nat.ne_of_lt C43.out.lt))
    have Y52 := Lib.hid ((C44.out.alloc (.cells (natsV .u8 (zeros 32)).toArray 31)).row (natsV .u8 lv).toArray (Nat.ne_of_lt C44.out.lt))
    have Y53 := Lib.hid ((C45.out.alloc (.cells (natsV .u8 (zeros 32)).toArray 31)).row (natsV .u8 lv).toArray (Nat.ne_of_lt C45.out.lt))
    have Y54 := Lib.hid ((C46.out.alloc (.cells (natsV .u8 (zeros 32)).toArray 31)).row (natsV .u8 lv).toArray (Nat.ne_of_lt C46.out.lt))
    have Y55 := Lib.hid (Z49.out.setRow (natsV .u8 lv))
    go_wp2_with (first | (refine st31 rfl (.tmp 11) (.tmp 50) rfl w42.heap.size rfl lv rfl LV.out (zeros 32) Z49.out rfl ?_; generalize hW : World.setRow _ _ _ = w48; have D57 := Lib.hid (show Blk w48 w.heap.size 25 (natsV .u64 lx) from (by rw [← hW]; exact Y51.out)); have D58 := Lib.hid (show Blk w48 (w.heap.size + 1) 25 (natsV .u64 ly) from (by rw [← hW]; exact Y52.out)); have D59 := Lib.hid (show Blk w48 G15 25 (natsV .u64 ln) from (by rw [← hW]; exact Y53.out)); have D60 := Lib.hid (show Blk w48 G36 31 (natsV .u8 lu) from (by rw [← hW]; exact Y54.out)); have D61 := Lib.hid (show Blk w48 w42.heap.size 31 (natsV .u8 lv) from (by rw [← hW]; exact Y55.out)); have hbel62 : Below w.heap.size w w48 := (by rw [← hW]; exact hz50.out); clear hW Z49 hz50 C43 C44 C45 C46 Y51 Y52 Y53 Y54 Y55 hbel47; generalize w42.heap.size = G56 at *))
    refine (HOX.out _ G36 (bin_blk D60.out LU.out BU.out)).mono ?_
    rintro e w63 ⟨rfl, hbw63⟩
    have C64 := Lib.hid (D57.out.below' hbw63)
    have C65 := Lib.hid (D58.out.below' hbw63)
    have C66 := Lib.hid (D59.out.below' hbw63)
    have C67 := Lib.hid (D60.out.below' hbw63)
    have C68 := Lib.hid (D61.out.below' hbw63)
    have hbel69 := hbel62.trans (hbw63.mono hbel62.size)
    clear D57 D58 D59 D60 D61 hbw63 hbel62
    have Z71 := Lib.hid (Blk.new w63 25 (natsV .u64 (zeros 4)))
    have hz72 := Lib.hid (below_setRow' (hbel69.alloc hbel69.size (.cells (natsV .u64 (zeros 4)).toArray 25)) hbel69.size (natsV .u64 lx).toArray)
    have Y73 := Lib.hid ((C64.out.alloc (.cells (natsV .u64 (zeros 4)).toArray 25)).row (natsV .u64 lx).toArray (Nat.ne_of_lt C64.out.lt))
    have Y74 := Lib.hid ((C65.out.alloc (.cells (natsV .u64 (zeros 4)).toArray 25)).row (natsV .u64 lx).toArray (Nat.ne_of_lt C65.out.lt))
    have Y75 := Lib.hid ((C66.out.alloc (.cells (natsV .u64 (zeros 4)).toArray 25)).row (natsV .u64 lx).toArray (Nat.ne_of_lt C66.out.lt))
    have Y76 := Lib.hid ((C67.out.alloc (.cells (natsV .u64 (zeros 4)).toArray 25)).row (natsV .u64 lx).toArray (Nat.ne_of_lt C67.out.lt))
    have Y77 := Lib.hid ((C68.out.alloc (.cells (natsV .u64 (zeros 4)).toArray 25)).row (natsV .u64 lx).toArray (Nat.ne_of_lt C68.out.lt))
    have Y78 := Lib.hid (Z71.out.setRow (natsV .u64 lx))
    go_wp2_with (first | (refine st25 rfl (.tmp 12) (.tmp 54) rfl w63.heap.size rfl lx rfl LX.out (zeros 4) Z71.out rfl ?_; generalize hW : World.setRow _ _ _ = w70; have D80 := Lib.hid (show Blk w70 w.heap.size 25 (natsV .u64 lx) from (by rw [← hW]; exact Y73.out)); have D81 := Lib.hid (show Blk w70 (w.heap.size + 1) 25 (natsV .u64 ly) from (by rw [← hW]; exact Y74.out)); have D82 := Lib.hid (show Blk w70 G15 25 (natsV .u64 ln) from (by rw [← hW]; exact Y75.out)); have D83 := Lib.hid (show Blk w70 G36 31 (natsV .u8 lu) from (by rw [← hW]; exact Y76.out)); have D84 := Lib.hid (show Blk w70 G56 31 (natsV .u8 lv) from (by rw [← hW]; exact Y77.out)); have D85 := Lib.hid (show Blk w70 w63.heap.size 25 (natsV .u64 lx) from (by rw [← hW]; exact Y78.out)); have hbel86 : Below w.heap.size w w70 := (by rw [← hW]; exact hz72.out); clear hW Z71 hz72 C64 C65 C66 C67 C68 Y73 Y74 Y75 Y76 Y77 Y78 hbel69; generalize w63.heap.size = G79 at *))
    clear HOX HBX HBY
    go_loopw [14, 15] (fun cc i wr => ∃ s : Nat, s ≤ 32 ∧ i = .int .i64 ((s : Int) - 1) ∧ cc = .int .i64 (cmpZ (x % 256 ^ (32 - s)) (y % 256 ^ (32 - s))) ∧ Blk wr w.heap.size 25 (natsV .u64 lx) ∧ Blk wr (w.heap.size + 1) 25 (natsV .u64 ly) ∧ Blk wr G36 31 (natsV .u8 lu) ∧ Blk wr G56 31 (natsV .u8 lv) ∧ Blk wr G79 25 (natsV .u64 lx) ∧ Below w.heap.size w wr) (fun _ i _ => (intOf i + 1).toNat)
    case atStart => exact ⟨32, by omega, rfl, by rw [HC0.out], D80.out, D81.out, D83.out, D84.out, D85.out, hbel86⟩
    case round =>
      clear D80 D81 D83 D84 D85 hbel86 HC0
      obtain ⟨s, hs, rfl, rfl, k1, k2, k3, k4, k5, hbel⟩ := hrel
      have K1 := Lib.hid k1
      have K2 := Lib.hid k2
      have K3 := Lib.hid k3
      have K4 := Lib.hid k4
      have K5 := Lib.hid k5
      clear k1 k2 k3 k4 k5
      rcases s with _ | s
      · rw [show ((0 : Nat) : Int) - 1 = -1 from rfl]
        rw [show 32 - 0 = 32 from rfl, HCF.out]
        as_aux_lemma =>
        go_wp2_with fail
        refine wp_region_held_drew (S := (fun w' => w'.rangeAt G36 0 (natsV .u8 lu) ∧ w'.rangeAt w.heap.size 0 (natsV .u64 lx) ∧ w'.rangeAt G79 0 (natsV .u64 lx) ∧ w'.rangeAt (w.heap.size + 1) 0 (natsV .u64 ly))) (by kernel_rfl) ⟨blk_rangeG K3.out.drew, blk_rangeG K1.out.drew, blk_rangeG K5.out.drew, blk_rangeG K2.out.drew⟩ (fun hHeld => ?_)
        refine wpAnyH_take (i := 0) (oi := _) (v := _) rfl (by kernel_rfl) (by kernel_rfl) (by kernel_rfl) (fun _ _ _ h => h) (Or.inl ⟨by rfl, by intro w hSw; (try dsimp only at hSw); go_simp; first | done | with_reducible rfl⟩) hHeld ?_
        try simp only [Act.put, List.getElem_toArray, List.getElem_cons_succ, List.getElem_cons_zero, List.setIfInBounds_toArray, List.set_cons_zero, List.set_cons_succ]
        refine wpAnyH_take (i := 1) (oi := _) (v := _) rfl (by kernel_rfl) (by kernel_rfl) (by kernel_rfl) (fun _ _ _ h => h) (Or.inl ⟨by rfl, by intro w hSw; (try dsimp only at hSw); go_simp; first | done | with_reducible rfl⟩) hHeld ?_
        try simp only [Act.put, List.getElem_toArray, List.getElem_cons_succ, List.getElem_cons_zero, List.setIfInBounds_toArray, List.set_cons_zero, List.set_cons_succ]
        refine wpAnyH_take (i := 2) (oi := _) (v := _) rfl (by kernel_rfl) (by kernel_rfl) (by kernel_rfl) (fun _ _ _ h => h) (yieldsIf_load_mid (by rfl) _ _ rfl _ _ rfl _ _ (by intro w hSw; exact hSw.1) u31 rfl i31u) hHeld ?_
        try simp only [Act.put, List.getElem_toArray, List.getElem_cons_succ, List.getElem_cons_zero, List.setIfInBounds_toArray, List.set_cons_zero, List.set_cons_succ]
        refine wpAnyH_take (i := 3) (oi := _) (v := _) rfl (by kernel_rfl) (by kernel_rfl) (by kernel_rfl) (fun _ _ _ h => h) (yieldsIf_load_mid (by rfl) _ _ rfl _ _ rfl _ _ (by intro w hSw; exact hSw.2.1) u25 rfl i25x) hHeld ?_
        try simp only [Act.put, List.getElem_toArray, List.getElem_cons_succ, List.getElem_cons_zero, List.setIfInBounds_toArray, List.set_cons_zero, List.set_cons_succ]
        refine wpAnyH_ready (rs := [4]) (by kernel_rfl) (by simp) ?_
        refine AllReadyH.cons (o := _) rfl (fun K hK => ?_) AllReadyH.nil
        go_simp
        go_at_call 13
        refine (HRB.out _).mono ?_
        rintro e wx1 ⟨rfl, hbx1⟩
        refine hK.out _ _ (keepR4 hbx1 hHeld) (fun hHeld2 => ?_)
        clear hK K hHeld
        have hHeld := hHeld2
        clear hHeld2
        try simp only [Act.put, List.getElem_toArray, List.getElem_cons_succ, List.getElem_cons_zero, List.setIfInBounds_toArray, List.set_cons_zero, List.set_cons_succ]
        have q := QU.out
        refine wpAnyH_take (i := 5) (oi := _) (v := _) rfl (by kernel_rfl) (by kernel_rfl) (by kernel_rfl) (fun _ _ _ h => h) (Or.inl ⟨by rfl, by intro w hSw; (try dsimp only at hSw); go_simp; first | done | with_reducible rfl⟩) hHeld ?_
        try simp only [Act.put, List.getElem_toArray, List.getElem_cons_succ, List.getElem_cons_zero, List.setIfInBounds_toArray, List.set_cons_zero, List.set_cons_succ]
        clear q
        refine wpAnyH_take (i := 6) (oi := _) (v := _) rfl (by kernel_rfl) (by kernel_rfl) (by kernel_rfl) (fun _ _ _ h => h) (Or.inl ⟨by rfl, by intro w hSw; (try dsimp only at hSw); go_simp; first | done | with_reducible rfl⟩) hHeld ?_
        try simp only [Act.put, List.getElem_toArray, List.getElem_cons_succ, List.getElem_cons_zero, List.setIfInBounds_toArray, List.set_cons_zero, List.set_cons_succ]
        refine wpAnyH_take (i := 7) (oi := _) (v := _) rfl (by kernel_rfl) (by kernel_rfl) (by kernel_rfl) (fun _ _ _ h => h) (Or.inl ⟨by rfl, by intro w hSw; (try dsimp only at hSw); go_simp; first | done | with_reducible rfl⟩) hHeld ?_
        try simp only [Act.put, List.getElem_toArray, List.getElem_cons_succ, List.getElem_cons_zero, List.setIfInBounds_toArray, List.set_cons_zero, List.set_cons_succ]
        refine wpAnyH_take (i := 8) (oi := _) (v := _) rfl (by kernel_rfl) (by kernel_rfl) (by kernel_rfl) (fun _ _ _ h => h) (yieldsIf_load_mid (by rfl) _ _ rfl _ _ rfl _ _ (by intro w hSw; exact hSw.2.2.1) u25 rfl i25x) hHeld ?_
        try simp only [Act.put, List.getElem_toArray, List.getElem_cons_succ, List.getElem_cons_zero, List.setIfInBounds_toArray, List.set_cons_zero, List.set_cons_succ]
        refine wpAnyH_take (i := 9) (oi := _) (v := _) rfl (by kernel_rfl) (by kernel_rfl) (by kernel_rfl) (fun _ _ _ h => h) (yieldsIf_load_mid (by rfl) _ _ rfl _ _ rfl _ _ (by intro w hSw; exact hSw.2.1) u25 rfl i25x) hHeld ?_
        try simp only [Act.put, List.getElem_toArray, List.getElem_cons_succ, List.getElem_cons_zero, List.setIfInBounds_toArray, List.set_cons_zero, List.set_cons_succ]
        have q := QX.out
        refine wpAnyH_take (i := 10) (oi := _) (v := _) rfl (by kernel_rfl) (by kernel_rfl) (by kernel_rfl) (fun _ _ _ h => h) (Or.inl ⟨by rfl, by intro w hSw; (try dsimp only at hSw); go_simp; first | done | with_reducible rfl⟩) hHeld ?_
        try simp only [Act.put, List.getElem_toArray, List.getElem_cons_succ, List.getElem_cons_zero, List.setIfInBounds_toArray, List.set_cons_zero, List.set_cons_succ]
        clear q
        refine wpAnyH_take (i := 11) (oi := _) (v := _) rfl (by kernel_rfl) (by kernel_rfl) (by kernel_rfl) (fun _ _ _ h => h) (Or.inl ⟨by rfl, by intro w hSw; (try dsimp only at hSw); go_simp; first | done | with_reducible rfl⟩) hHeld ?_
        try simp only [Act.put, List.getElem_toArray, List.getElem_cons_succ, List.getElem_cons_zero, List.setIfInBounds_toArray, List.set_cons_zero, List.set_cons_succ]
        refine wpAnyH_take (i := 12) (oi := _) (v := _) rfl (by kernel_rfl) (by kernel_rfl) (by kernel_rfl) (fun _ _ _ h => h) (Or.inl ⟨by rfl, by intro w hSw; (try dsimp only at hSw); go_simp; first | done | with_reducible rfl⟩) hHeld ?_
        try simp only [Act.put, List.getElem_toArray, List.getElem_cons_succ, List.getElem_cons_zero, List.setIfInBounds_toArray, List.set_cons_zero, List.set_cons_succ]
        refine wpAnyH_take (i := 13) (oi := _) (v := _) rfl (by kernel_rfl) (by kernel_rfl) (by kernel_rfl) (fun _ _ _ h => h) (Or.inl ⟨by rfl, by intro w hSw; (try dsimp only at hSw); go_simp; first | done | with_reducible rfl⟩) hHeld ?_
        try simp only [Act.put, List.getElem_toArray, List.getElem_cons_succ, List.getElem_cons_zero, List.setIfInBounds_toArray, List.set_cons_zero, List.set_cons_succ]
        refine wpAnyH_take (i := 14) (oi := _) (v := _) rfl (by kernel_rfl) (by kernel_rfl) (by kernel_rfl) (fun _ _ _ h => h) (Or.inl ⟨by rfl, by intro w hSw; (try dsimp only at hSw); go_simp; first | done | with_reducible rfl⟩) hHeld ?_
        try simp only [Act.put, List.getElem_toArray, List.getElem_cons_succ, List.getElem_cons_zero, List.setIfInBounds_toArray, List.set_cons_zero, List.set_cons_succ]
        refine wpAnyH_take (i := 15) (oi := _) (v := _) rfl (by kernel_rfl) (by kernel_rfl) (by kernel_rfl) (fun _ _ _ h => h) (Or.inl ⟨by rfl, by intro w hSw; (try dsimp only at hSw); go_simp; first | done | with_reducible rfl⟩) hHeld ?_
        try simp only [Act.put, List.getElem_toArray, List.getElem_cons_succ, List.getElem_cons_zero, List.setIfInBounds_toArray, List.set_cons_zero, List.set_cons_succ]
        refine wpAnyH_take (i := 16) (oi := _) (v := _) rfl (by kernel_rfl) (by kernel_rfl) (by kernel_rfl) (fun _ _ _ h => h) (Or.inl ⟨by rfl, by intro w hSw; (try dsimp only at hSw); go_simp; first | done | with_reducible rfl⟩) hHeld ?_
        try simp only [Act.put, List.getElem_toArray, List.getElem_cons_succ, List.getElem_cons_zero, List.setIfInBounds_toArray, List.set_cons_zero, List.set_cons_succ]
        refine wpAnyH_take (i := 17) (oi := _) (v := _) rfl (by kernel_rfl) (by kernel_rfl) (by kernel_rfl) (fun _ _ _ h => h) (yieldsIf_load_mid (by rfl) _ _ rfl _ _ rfl _ _ (by intro w hSw; exact hSw.2.1) u25 rfl i25x) hHeld ?_
        try simp only [Act.put, List.getElem_toArray, List.getElem_cons_succ, List.getElem_cons_zero, List.setIfInBounds_toArray, List.set_cons_zero, List.set_cons_succ]
        refine wpAnyH_take (i := 18) (oi := _) (v := _) rfl (by kernel_rfl) (by kernel_rfl) (by kernel_rfl) (fun _ _ _ h => h) (yieldsIf_load_mid (by rfl) _ _ rfl _ _ rfl _ _ (by intro w hSw; exact hSw.2.2.2) u25 rfl i25y) hHeld ?_
        try simp only [Act.put, List.getElem_toArray, List.getElem_cons_succ, List.getElem_cons_zero, List.setIfInBounds_toArray, List.set_cons_zero, List.set_cons_succ]
        refine wpAnyH_take (i := 20) (oi := _) (v := _) rfl (by kernel_rfl) (by kernel_rfl) (by kernel_rfl) (fun _ _ _ h => h) (Or.inl ⟨by rfl, by intro w hSw; (try dsimp only at hSw); go_simp; first | done | with_reducible rfl⟩) hHeld ?_
        try simp only [Act.put, List.getElem_toArray, List.getElem_cons_succ, List.getElem_cons_zero, List.setIfInBounds_toArray, List.set_cons_zero, List.set_cons_succ]
        refine wpAnyH_ready (rs := [19]) (by kernel_rfl) (by simp) ?_
        refine AllReadyH.cons (o := _) rfl (fun K hK => ?_) AllReadyH.nil
        go_simp
        go_at_call 14
        refine (HCM.out _).mono ?_
        rintro e wx2 ⟨rfl, hbx2⟩
        refine hK.out _ _ (keepR4 hbx2 hHeld) (fun hHeld2 => ?_)
        clear hK K hHeld
        have hHeld := hHeld2
        clear hHeld2
        try simp only [Act.put, List.getElem_toArray, List.getElem_cons_succ, List.getElem_cons_zero, List.setIfInBounds_toArray, List.set_cons_zero, List.set_cons_succ]
        refine wpAnyH_take (i := 21) (oi := _) (v := _) rfl (by kernel_rfl) (by kernel_rfl) (by kernel_rfl) (fun _ _ _ h => h) (Or.inl ⟨by rfl, by intro w hSw; (try dsimp only at hSw); go_simp; first | done | with_reducible rfl⟩) hHeld ?_
        try simp only [Act.put, List.getElem_toArray, List.getElem_cons_succ, List.getElem_cons_zero, List.setIfInBounds_toArray, List.set_cons_zero, List.set_cons_succ]
        refine wpAnyH_take (i := 22) (oi := _) (v := _) rfl (by kernel_rfl) (by kernel_rfl) (by kernel_rfl) (fun _ _ _ h => h) (Or.inl ⟨by rfl, by intro w hSw; (try dsimp only at hSw); go_simp; first | done | with_reducible rfl⟩) hHeld ?_
        try simp only [Act.put, List.getElem_toArray, List.getElem_cons_succ, List.getElem_cons_zero, List.setIfInBounds_toArray, List.set_cons_zero, List.set_cons_succ]
        refine wpAnyH_take (i := 23) (oi := _) (v := _) rfl (by kernel_rfl) (by kernel_rfl) (by kernel_rfl) (fun _ _ _ h => h) (Or.inl ⟨by rfl, by intro w hSw; (try dsimp only at hSw); go_simp; first | done | with_reducible rfl⟩) hHeld ?_
        try simp only [Act.put, List.getElem_toArray, List.getElem_cons_succ, List.getElem_cons_zero, List.setIfInBounds_toArray, List.set_cons_zero, List.set_cons_succ]
        refine wpAnyH_take (i := 24) (oi := _) (v := _) rfl (by kernel_rfl) (by kernel_rfl) (by kernel_rfl) (fun _ _ _ h => h) (Or.inl ⟨by rfl, by intro w hSw; (try dsimp only at hSw); go_simp; first | done | with_reducible rfl⟩) hHeld ?_
        try simp only [Act.put, List.getElem_toArray, List.getElem_cons_succ, List.getElem_cons_zero, List.setIfInBounds_toArray, List.set_cons_zero, List.set_cons_succ]
        refine wpAnyH_take (i := 25) (oi := _) (v := _) rfl (by kernel_rfl) (by kernel_rfl) (by kernel_rfl) (fun _ _ _ h => h) (yieldsIf_load_mid (by rfl) _ _ rfl _ _ rfl _ _ (by intro w hSw; exact hSw.2.1) u25 rfl i25x) hHeld ?_
        try simp only [Act.put, List.getElem_toArray, List.getElem_cons_succ, List.getElem_cons_zero, List.setIfInBounds_toArray, List.set_cons_zero, List.set_cons_succ]
        refine wpAnyH_take (i := 26) (oi := _) (v := _) rfl (by kernel_rfl) (by kernel_rfl) (by kernel_rfl) (fun _ _ _ h => h) (yieldsIf_load_mid (by rfl) _ _ rfl _ _ rfl _ _ (by intro w hSw; exact hSw.2.2.2) u25 rfl i25y) hHeld ?_
        try simp only [Act.put, List.getElem_toArray, List.getElem_cons_succ, List.getElem_cons_zero, List.setIfInBounds_toArray, List.set_cons_zero, List.set_cons_succ]
        refine wpAnyH_ready (rs := [27]) (by kernel_rfl) (by simp) ?_
        refine AllReadyH.cons (o := _) rfl (fun K hK => ?_) AllReadyH.nil
        go_simp
        go_at_call 15
        refine (HRC.out _).mono ?_
        rintro e wx3 ⟨rfl, hbx3⟩
        refine hK.out _ _ (keepR4 hbx3 hHeld) (fun hHeld2 => ?_)
        clear hK K hHeld
        have hHeld := hHeld2
        clear hHeld2
        try simp only [Act.put, List.getElem_toArray, List.getElem_cons_succ, List.getElem_cons_zero, List.setIfInBounds_toArray, List.set_cons_zero, List.set_cons_succ]
        refine wpAnyH_take (i := 28) (oi := _) (v := _) rfl (by kernel_rfl) (by kernel_rfl) (by kernel_rfl) (fun _ _ _ h => h) (Or.inl ⟨by rfl, by intro w hSw; (try dsimp only at hSw); go_simp; first | done | with_reducible rfl⟩) hHeld ?_
        try simp only [Act.put, List.getElem_toArray, List.getElem_cons_succ, List.getElem_cons_zero, List.setIfInBounds_toArray, List.set_cons_zero, List.set_cons_succ]
        refine wpAnyH_take (i := 29) (oi := _) (v := _) rfl (by kernel_rfl) (by kernel_rfl) (by kernel_rfl) (fun _ _ _ h => h) (Or.inl ⟨by rfl, by intro w hSw; (try dsimp only at hSw); go_simp; first | done | with_reducible rfl⟩) hHeld ?_
        try simp only [Act.put, List.getElem_toArray, List.getElem_cons_succ, List.getElem_cons_zero, List.setIfInBounds_toArray, List.set_cons_zero, List.set_cons_succ]
        refine wpAnyH_take (i := 30) (oi := _) (v := _) rfl (by kernel_rfl) (by kernel_rfl) (by kernel_rfl) (fun _ _ _ h => h) (Or.inl ⟨by rfl, by intro w hSw; (try dsimp only at hSw); go_simp; first | done | with_reducible rfl⟩) hHeld ?_
        try simp only [Act.put, List.getElem_toArray, List.getElem_cons_succ, List.getElem_cons_zero, List.setIfInBounds_toArray, List.set_cons_zero, List.set_cons_succ]
        refine wpAnyH_done (by kernel_rfl) ?_ _
        have b1 := hbel.drew.trans (hbx1.mono hbel.drew.size)
        have b2 := b1.trans (hbx2.mono b1.size)
        have b3 := b2.trans (hbx3.mono b2.size)
        clear hHeld hbx1 hbx2 hbx3 hbel b1 b2
        go_wp2_with fail
        go_ret
        exact ⟨rfl, b3⟩
      · rw [show ((s + 1 : Nat) : Int) - 1 = (s : Int) by omega]
        as_aux_lemma =>
        have hs4 : s < 32 := by omega
        have hsi : (s : Int) < 32 := by omega
        have c0 := K3.out.nat s (by rw [LU.out]; exact hs4)
        have c1 := K4.out.nat s (by rw [LV.out]; exact hs4)
        rw [AU.out s hs4] at c0
        rw [AV.out s hs4] at c1
        have HSP := Lib.hid (HST.out (31 - s))
        rw [show 31 - s + 1 = 32 - s by omega, show 31 - s = 32 - (s + 1) by omega] at HSP
        rw [show 31 - s = 32 - (s + 1) by omega] at c0 c1
        generalize dgt 256 x (32 - (s + 1)) = p at *
        generalize dgt 256 y (32 - (s + 1)) = q at *
        generalize cmpZ (x % 256 ^ (32 - (s + 1))) (y % 256 ^ (32 - (s + 1))) = cp at *
        by_cases h1 : p < q
        · have hpq : (p : Int) < (q : Int) := by omega
          have hqp : ¬ ((q : Int) < (p : Int)) := by omega
          rw [if_pos h1] at HSP
          go_wp2_with fail
          go_quiet (fail)
          go_wp2_with fail
          go_quiet (fail)
          go_wp2_with fail
          go_roundw
          case rel => exact ⟨s, by omega, rfl, by rw [HSP.out], K1.out, K2.out, K3.out, K4.out, K5.out, below_drewN hbel _⟩
          case measure => simp [intOf] <;> omega
        · have hpq : ¬ ((p : Int) < (q : Int)) := by omega
          rw [if_neg h1] at HSP
          by_cases h2 : q < p
          · have hqp : (q : Int) < (p : Int) := by omega
            rw [if_pos h2] at HSP
            go_wp2_with fail
            go_quiet (fail)
            go_wp2_with fail
            go_quiet (fail)
            go_wp2_with fail
            go_roundw
            case rel => exact ⟨s, by omega, rfl, by rw [HSP.out], K1.out, K2.out, K3.out, K4.out, K5.out, below_drewN hbel _⟩
            case measure => simp [intOf] <;> omega
          · have hqp : ¬ ((q : Int) < (p : Int)) := by omega
            rw [if_neg h2] at HSP
            go_wp2_with fail
            go_quiet (fail)
            go_wp2_with fail
            go_quiet (fail)
            go_wp2_with fail
            go_roundw
            case rel => exact ⟨s, by omega, rfl, by rw [HSP.out], K1.out, K2.out, K3.out, K4.out, K5.out, below_drewN hbel _⟩
            case measure => simp [intOf] <;> omega
  · as_aux_lemma =>
    have hne : ((n : Int) != 32) = true := by rw [bne_iff_ne]; omega
    have heq : ((n : Int) == 32) = false := by rw [beq_eq_false_iff_ne]; omega
    have hoe : ofE n = 41 := if_neg h32
    rw [hoe]
    have HZ4 := Lib.hid (HOV.out h32)
    have QZ := Lib.hid (fun w => show (binOp .neq 25 (.agg (natsV .u64 ln).toArray) (.agg #[.int .u64 0, .int .u64 0, .int .u64 0, .int .u64 0])).run Try.prog w = .ok (.bool false) w from by have := QN.out w; rw [HZ4.out] at this ⊢; exact this)
    have q := QZ.out
    clear HRO HOV hoe QN h32
    go_wp2_with (first | (refine st25 rfl (.tmp 8) (.tmp 20) rfl w5.heap.size rfl ln rfl LN.out (zeros 4) Z10.out rfl ?_; generalize hW : World.setRow _ _ _ = w9; have D16 := Lib.hid (show Blk w9 w.heap.size 25 (natsV .u64 lx) from (by rw [← hW]; exact Y12.out)); have D17 := Lib.hid (show Blk w9 (w.heap.size + 1) 25 (natsV .u64 ly) from (by rw [← hW]; exact Y13.out)); have D18 := Lib.hid (show Blk w9 w5.heap.size 25 (natsV .u64 ln) from (by rw [← hW]; exact Y14.out)); have hbel19 : Below w.heap.size w w9 := (by rw [← hW]; exact hz11.out); clear hW Z10 hz11 C6 C7 Y12 Y13 Y14 hbel8; generalize w5.heap.size = G15 at *) | (refine ldn 25 (.tmp 8) rfl G15 rfl .u64 ln D18.out _ _ Try.underlying25 (by rw [info25, LN.out]) 6 rfl 28 rfl rfl ?_))
    clear q QZ
    go_quiet (fail)
    have E20 := Lib.hid (D16.out.drewN nq)
    have E21 := Lib.hid (D17.out.drewN nq)
    have E22 := Lib.hid (D18.out.drewN nq)
    have hbel23 := below_drewN hbel19 nq
    generalize w9.drewN nq = wq24 at *
    clear D16 D17 D18 hbel19
    go_wp2_with (first | (refine ld25 rfl (.tmp 4) rfl w.heap.size rfl lx E20.out LX.out ?_))
    refine (HBX.out _).mono ?_
    rintro e w25 ⟨rfl, hbw25⟩
    have C26 := Lib.hid (E20.out.below' hbw25)
    have C27 := Lib.hid (E21.out.below' hbw25)
    have C28 := Lib.hid (E22.out.below' hbw25)
    have hbel29 := hbel23.trans (hbw25.mono hbel23.size)
    clear E20 E21 E22 hbw25 hbel23
    have Z31 := Lib.hid (Blk.new w25 31 (natsV .u8 (zeros 32)))
    have hz32 := Lib.hid (below_setRow' (hbel29.alloc hbel29.size (.cells (natsV .u8 (zeros 32)).toArray 31)) hbel29.size (natsV .u8 lu).toArray)
    have Y33 := Lib.hid ((C26.out.alloc (.cells (natsV .u8 (zeros 32)).toArray 31)).row (natsV .u8 lu).toArray (Nat.ne_of_lt C26.out.lt))
    have Y34 := Lib.hid ((C27.out.alloc (.cells (natsV .u8 (zeros 32)).toArray 31)).row (natsV .u8 lu).toArray (Nat.ne_of_lt C27.out.lt))
    have Y35 := Lib.hid ((C28.out.alloc (.cells (natsV .u8 (zeros 32)).toArray 31)).row (natsV .u8 lu).toArray (Nat.ne_of_lt C28.out.lt))
    have Y36 := Lib.hid (Z31.out.setRow (natsV .u8 lu))
    go_wp2_with (first | (refine st31 rfl (.tmp 10) (.tmp 48) rfl w25.heap.size rfl lu rfl LU.out (zeros 32) Z31.out rfl ?_; generalize hW : World.setRow _ _ _ = w30; have D38 := Lib.hid (show Blk w30 w.heap.size 25 (natsV .u64 lx) from (by rw [← hW]; exact Y33.out)); have D39 := Lib.hid (show Blk w30 (w.heap.size + 1) 25 (natsV .u64 ly) from (by rw [← hW]; exact Y34.out)); have D40 := Lib.hid (show Blk w30 G15 25 (natsV .u64 ln) from (by rw [← hW]; exact Y35.out)); have D41 := Lib.hid (show Blk w30 w25.heap.size 31 (natsV .u8 lu) from (by rw [← hW]; exact Y36.out)); have hbel42 : Below w.heap.size w w30 := (by rw [← hW]; exact hz32.out); clear hW Z31 hz32 C26 C27 C28 Y33 Y34 Y35 Y36 hbel29; generalize w25.heap.size = G37 at *) | (refine ld25 rfl (.tmp 5) rfl (w.heap.size + 1) rfl ly D39.out LY.out ?_))
    refine (HBY.out _).mono ?_
    rintro e w43 ⟨rfl, hbw43⟩
    have C44 := Lib.hid (D38.out.below' hbw43)
    have C45 := Lib.hid (D39.out.below' hbw43)
    have C46 := Lib.hid (D40.out.below' hbw43)
    have C47 := Lib.hid (D41.out.below' hbw43)
    have hbel48 := hbel42.trans (hbw43.mono hbel42.size)
    clear D38 D39 D40 D41 hbw43 hbel42
    have Z50 := Lib.hid (Blk.new w43 31 (natsV .u8 (zeros 32)))
    have hz51 := Lib.hid (below_setRow' (hbel48.alloc hbel48.size (.cells (natsV .u8 (zeros 32)).toArray 31)) hbel48.size (natsV .u8 lv).toArray)
    have Y52 := Lib.hid ((C44.out.alloc (.cells (natsV .u8 (zeros 32)).toArray 31)).row (natsV .u8 lv).toArray (Nat.ne_of_lt C44.out.lt))
    have Y53 := Lib.hid ((C45.out.alloc (.cells (natsV .u8 (zeros 32)).toArray 31)).row (natsV .u8 lv).toArray (Nat.ne_of_lt C45.out.lt))
    have Y54 := Lib.hid ((C46.out.alloc (.cells (natsV .u8 (zeros 32)).toArray 31)).row (natsV .u8 lv).toArray (Nat.ne_of_lt C46.out.lt))
    have Y55 := Lib.hid ((C47.out.alloc (.cells (natsV .u8 (zeros 32)).toArray 31)).row (natsV .u8 lv).toArray (Nat.ne_of_lt C47.out.lt))
    have Y56 := Lib.hid (Z50.out.setRow (natsV .u8 lv))
    go_wp2_with (first | (refine st31 rfl (.tmp 11) (.tmp 50) rfl w43.heap.size rfl lv rfl LV.out (zeros 32) Z50.out rfl ?_; generalize hW : World.setRow _ _ _ = w49; have D58 := Lib.hid (show Blk w49 w.heap.size 25 (natsV .u64 lx) from (by rw [← hW]; exact Y52.out)); have D59 := Lib.hid (show Blk w49 (w.heap.size + 1) 25 (natsV .u64 ly) from (by rw [← hW]; exact Y53.out)); have D60 := Lib.hid (show Blk w49 G15 25 (natsV .u64 ln) from (by rw [← hW]; exact Y54.out)); have D61 := Lib.hid (show Blk w49 G37 31 (natsV .u8 lu) from (by rw [← hW]; exact Y55.out)); have D62 := Lib.hid (show Blk w49 w43.heap.size 31 (natsV .u8 lv) from (by rw [← hW]; exact Y56.out)); have hbel63 : Below w.heap.size w w49 := (by rw [← hW]; exact hz51.out); clear hW Z50 hz51 C44 C45 C46 C47 Y52 Y53 Y54 Y55 Y56 hbel48; generalize w43.heap.size = G57 at *))
    refine (HOX.out _ G37 (bin_blk D61.out LU.out BU.out)).mono ?_
    rintro e w64 ⟨rfl, hbw64⟩
    have C65 := Lib.hid (D58.out.below' hbw64)
    have C66 := Lib.hid (D59.out.below' hbw64)
    have C67 := Lib.hid (D60.out.below' hbw64)
    have C68 := Lib.hid (D61.out.below' hbw64)
    have C69 := Lib.hid (D62.out.below' hbw64)
    have hbel70 := hbel63.trans (hbw64.mono hbel63.size)
    clear D58 D59 D60 D61 D62 hbw64 hbel63
    have Z72 := Lib.hid (Blk.new w64 25 (natsV .u64 (zeros 4)))
    have hz73 := Lib.hid (below_setRow' (hbel70.alloc hbel70.size (.cells (natsV .u64 (zeros 4)).toArray 25)) hbel70.size (natsV .u64 lx).toArray)
    have Y74 := Lib.hid ((C65.out.alloc (.cells (natsV .u64 (zeros 4)).toArray 25)).row (natsV .u64 lx).toArray (Nat.ne_of_lt C65.out.lt))
    have Y75 := Lib.hid ((C66.out.alloc (.cells (natsV .u64 (zeros 4)).toArray 25)).row (natsV .u64 lx).toArray (Nat.ne_of_lt C66.out.lt))
    have Y76 := Lib.hid ((C67.out.alloc (.cells (natsV .u64 (zeros 4)).toArray 25)).row (natsV .u64 lx).toArray (Nat.ne_of_lt C67.out.lt))
    have Y77 := Lib.hid ((C68.out.alloc (.cells (natsV .u64 (zeros 4)).toArray 25)).row (natsV .u64 lx).toArray (Nat.ne_of_lt C68.out.lt))
    have Y78 := Lib.hid ((C69.out.alloc (.cells (natsV .u64 (zeros 4)).toArray 25)).row (natsV .u64 lx).toArray (Nat.ne_of_lt C69.out.lt))
    have Y79 := Lib.hid (Z72.out.setRow (natsV .u64 lx))
    go_wp2_with (first | (refine st25 rfl (.tmp 12) (.tmp 54) rfl w64.heap.size rfl lx rfl LX.out (zeros 4) Z72.out rfl ?_; generalize hW : World.setRow _ _ _ = w71; have D81 := Lib.hid (show Blk w71 w.heap.size 25 (natsV .u64 lx) from (by rw [← hW]; exact Y74.out)); have D82 := Lib.hid (show Blk w71 (w.heap.size + 1) 25 (natsV .u64 ly) from (by rw [← hW]; exact Y75.out)); have D83 := Lib.hid (show Blk w71 G15 25 (natsV .u64 ln) from (by rw [← hW]; exact Y76.out)); have D84 := Lib.hid (show Blk w71 G37 31 (natsV .u8 lu) from (by rw [← hW]; exact Y77.out)); have D85 := Lib.hid (show Blk w71 G57 31 (natsV .u8 lv) from (by rw [← hW]; exact Y78.out)); have D86 := Lib.hid (show Blk w71 w64.heap.size 25 (natsV .u64 lx) from (by rw [← hW]; exact Y79.out)); have hbel87 : Below w.heap.size w w71 := (by rw [← hW]; exact hz73.out); clear hW Z72 hz73 C65 C66 C67 C68 C69 Y74 Y75 Y76 Y77 Y78 Y79 hbel70; generalize w64.heap.size = G80 at *))
    clear HOX HBX HBY
    go_loopw [14, 15] (fun cc i wr => ∃ s : Nat, s ≤ 32 ∧ i = .int .i64 ((s : Int) - 1) ∧ cc = .int .i64 (cmpZ (x % 256 ^ (32 - s)) (y % 256 ^ (32 - s))) ∧ Blk wr w.heap.size 25 (natsV .u64 lx) ∧ Blk wr (w.heap.size + 1) 25 (natsV .u64 ly) ∧ Blk wr G37 31 (natsV .u8 lu) ∧ Blk wr G57 31 (natsV .u8 lv) ∧ Blk wr G80 25 (natsV .u64 lx) ∧ Below w.heap.size w wr) (fun _ i _ => (intOf i + 1).toNat)
    case atStart => exact ⟨32, by omega, rfl, by rw [HC0.out], D81.out, D82.out, D84.out, D85.out, D86.out, hbel87⟩
    case round =>
      clear D81 D82 D84 D85 D86 hbel87 HC0
      obtain ⟨s, hs, rfl, rfl, k1, k2, k3, k4, k5, hbel⟩ := hrel
      have K1 := Lib.hid k1
      have K2 := Lib.hid k2
      have K3 := Lib.hid k3
      have K4 := Lib.hid k4
      have K5 := Lib.hid k5
      clear k1 k2 k3 k4 k5
      rcases s with _ | s
      · rw [show ((0 : Nat) : Int) - 1 = -1 from rfl]
        rw [show 32 - 0 = 32 from rfl, HCF.out]
        as_aux_lemma =>
        go_wp2_with fail
        refine wp_region_held_drew (S := (fun w' => w'.rangeAt G37 0 (natsV .u8 lu) ∧ w'.rangeAt w.heap.size 0 (natsV .u64 lx) ∧ w'.rangeAt G80 0 (natsV .u64 lx) ∧ w'.rangeAt (w.heap.size + 1) 0 (natsV .u64 ly))) (by kernel_rfl) ⟨blk_rangeG K3.out.drew, blk_rangeG K1.out.drew, blk_rangeG K5.out.drew, blk_rangeG K2.out.drew⟩ (fun hHeld => ?_)
        refine wpAnyH_take (i := 0) (oi := _) (v := _) rfl (by kernel_rfl) (by kernel_rfl) (by kernel_rfl) (fun _ _ _ h => h) (Or.inl ⟨by rfl, by intro w hSw; (try dsimp only at hSw); go_simp; first | done | with_reducible rfl⟩) hHeld ?_
        try simp only [Act.put, List.getElem_toArray, List.getElem_cons_succ, List.getElem_cons_zero, List.setIfInBounds_toArray, List.set_cons_zero, List.set_cons_succ]
        refine wpAnyH_take (i := 1) (oi := _) (v := _) rfl (by kernel_rfl) (by kernel_rfl) (by kernel_rfl) (fun _ _ _ h => h) (Or.inl ⟨by rfl, by intro w hSw; (try dsimp only at hSw); go_simp; first | done | with_reducible rfl⟩) hHeld ?_
        try simp only [Act.put, List.getElem_toArray, List.getElem_cons_succ, List.getElem_cons_zero, List.setIfInBounds_toArray, List.set_cons_zero, List.set_cons_succ]
        refine wpAnyH_take (i := 2) (oi := _) (v := _) rfl (by kernel_rfl) (by kernel_rfl) (by kernel_rfl) (fun _ _ _ h => h) (yieldsIf_load_mid (by rfl) _ _ rfl _ _ rfl _ _ (by intro w hSw; exact hSw.1) u31 rfl i31u) hHeld ?_
        try simp only [Act.put, List.getElem_toArray, List.getElem_cons_succ, List.getElem_cons_zero, List.setIfInBounds_toArray, List.set_cons_zero, List.set_cons_succ]
        refine wpAnyH_take (i := 3) (oi := _) (v := _) rfl (by kernel_rfl) (by kernel_rfl) (by kernel_rfl) (fun _ _ _ h => h) (yieldsIf_load_mid (by rfl) _ _ rfl _ _ rfl _ _ (by intro w hSw; exact hSw.2.1) u25 rfl i25x) hHeld ?_
        try simp only [Act.put, List.getElem_toArray, List.getElem_cons_succ, List.getElem_cons_zero, List.setIfInBounds_toArray, List.set_cons_zero, List.set_cons_succ]
        refine wpAnyH_ready (rs := [4]) (by kernel_rfl) (by simp) ?_
        refine AllReadyH.cons (o := _) rfl (fun K hK => ?_) AllReadyH.nil
        go_simp
        go_at_call 13
        refine (HRB.out _).mono ?_
        rintro e wx1 ⟨rfl, hbx1⟩
        refine hK.out _ _ (keepR4 hbx1 hHeld) (fun hHeld2 => ?_)
        clear hK K hHeld
        have hHeld := hHeld2
        clear hHeld2
        try simp only [Act.put, List.getElem_toArray, List.getElem_cons_succ, List.getElem_cons_zero, List.setIfInBounds_toArray, List.set_cons_zero, List.set_cons_succ]
        have q := QU.out
        refine wpAnyH_take (i := 5) (oi := _) (v := _) rfl (by kernel_rfl) (by kernel_rfl) (by kernel_rfl) (fun _ _ _ h => h) (Or.inl ⟨by rfl, by intro w hSw; (try dsimp only at hSw); go_simp; first | done | with_reducible rfl⟩) hHeld ?_
        try simp only [Act.put, List.getElem_toArray, List.getElem_cons_succ, List.getElem_cons_zero, List.setIfInBounds_toArray, List.set_cons_zero, List.set_cons_succ]
        clear q
        refine wpAnyH_take (i := 6) (oi := _) (v := _) rfl (by kernel_rfl) (by kernel_rfl) (by kernel_rfl) (fun _ _ _ h => h) (Or.inl ⟨by rfl, by intro w hSw; (try dsimp only at hSw); go_simp; first | done | with_reducible rfl⟩) hHeld ?_
        try simp only [Act.put, List.getElem_toArray, List.getElem_cons_succ, List.getElem_cons_zero, List.setIfInBounds_toArray, List.set_cons_zero, List.set_cons_succ]
        refine wpAnyH_take (i := 7) (oi := _) (v := _) rfl (by kernel_rfl) (by kernel_rfl) (by kernel_rfl) (fun _ _ _ h => h) (Or.inl ⟨by rfl, by intro w hSw; (try dsimp only at hSw); go_simp; first | done | with_reducible rfl⟩) hHeld ?_
        try simp only [Act.put, List.getElem_toArray, List.getElem_cons_succ, List.getElem_cons_zero, List.setIfInBounds_toArray, List.set_cons_zero, List.set_cons_succ]
        refine wpAnyH_take (i := 8) (oi := _) (v := _) rfl (by kernel_rfl) (by kernel_rfl) (by kernel_rfl) (fun _ _ _ h => h) (yieldsIf_load_mid (by rfl) _ _ rfl _ _ rfl _ _ (by intro w hSw; exact hSw.2.2.1) u25 rfl i25x) hHeld ?_
        try simp only [Act.put, List.getElem_toArray, List.getElem_cons_succ, List.getElem_cons_zero, List.setIfInBounds_toArray, List.set_cons_zero, List.set_cons_succ]
        refine wpAnyH_take (i := 9) (oi := _) (v := _) rfl (by kernel_rfl) (by kernel_rfl) (by kernel_rfl) (fun _ _ _ h => h) (yieldsIf_load_mid (by rfl) _ _ rfl _ _ rfl _ _ (by intro w hSw; exact hSw.2.1) u25 rfl i25x) hHeld ?_
        try simp only [Act.put, List.getElem_toArray, List.getElem_cons_succ, List.getElem_cons_zero, List.setIfInBounds_toArray, List.set_cons_zero, List.set_cons_succ]
        have q := QX.out
        refine wpAnyH_take (i := 10) (oi := _) (v := _) rfl (by kernel_rfl) (by kernel_rfl) (by kernel_rfl) (fun _ _ _ h => h) (Or.inl ⟨by rfl, by intro w hSw; (try dsimp only at hSw); go_simp; first | done | with_reducible rfl⟩) hHeld ?_
        try simp only [Act.put, List.getElem_toArray, List.getElem_cons_succ, List.getElem_cons_zero, List.setIfInBounds_toArray, List.set_cons_zero, List.set_cons_succ]
        clear q
        refine wpAnyH_take (i := 11) (oi := _) (v := _) rfl (by kernel_rfl) (by kernel_rfl) (by kernel_rfl) (fun _ _ _ h => h) (Or.inl ⟨by rfl, by intro w hSw; (try dsimp only at hSw); go_simp; first | done | with_reducible rfl⟩) hHeld ?_
        try simp only [Act.put, List.getElem_toArray, List.getElem_cons_succ, List.getElem_cons_zero, List.setIfInBounds_toArray, List.set_cons_zero, List.set_cons_succ]
        refine wpAnyH_take (i := 12) (oi := _) (v := _) rfl (by kernel_rfl) (by kernel_rfl) (by kernel_rfl) (fun _ _ _ h => h) (Or.inl ⟨by rfl, by intro w hSw; (try dsimp only at hSw); go_simp; first | done | with_reducible rfl⟩) hHeld ?_
        try simp only [Act.put, List.getElem_toArray, List.getElem_cons_succ, List.getElem_cons_zero, List.setIfInBounds_toArray, List.set_cons_zero, List.set_cons_succ]
        refine wpAnyH_take (i := 13) (oi := _) (v := _) rfl (by kernel_rfl) (by kernel_rfl) (by kernel_rfl) (fun _ _ _ h => h) (Or.inl ⟨by rfl, by intro w hSw; (try dsimp only at hSw); go_simp; first | done | with_reducible rfl⟩) hHeld ?_
        try simp only [Act.put, List.getElem_toArray, List.getElem_cons_succ, List.getElem_cons_zero, List.setIfInBounds_toArray, List.set_cons_zero, List.set_cons_succ]
        refine wpAnyH_take (i := 14) (oi := _) (v := _) rfl (by kernel_rfl) (by kernel_rfl) (by kernel_rfl) (fun _ _ _ h => h) (Or.inl ⟨by rfl, by intro w hSw; (try dsimp only at hSw); go_simp; first | done | with_reducible rfl⟩) hHeld ?_
        try simp only [Act.put, List.getElem_toArray, List.getElem_cons_succ, List.getElem_cons_zero, List.setIfInBounds_toArray, List.set_cons_zero, List.set_cons_succ]
        refine wpAnyH_take (i := 15) (oi := _) (v := _) rfl (by kernel_rfl) (by kernel_rfl) (by kernel_rfl) (fun _ _ _ h => h) (Or.inl ⟨by rfl, by intro w hSw; (try dsimp only at hSw); go_simp; first | done | with_reducible rfl⟩) hHeld ?_
        try simp only [Act.put, List.getElem_toArray, List.getElem_cons_succ, List.getElem_cons_zero, List.setIfInBounds_toArray, List.set_cons_zero, List.set_cons_succ]
        refine wpAnyH_take (i := 16) (oi := _) (v := _) rfl (by kernel_rfl) (by kernel_rfl) (by kernel_rfl) (fun _ _ _ h => h) (Or.inl ⟨by rfl, by intro w hSw; (try dsimp only at hSw); go_simp; first | done | with_reducible rfl⟩) hHeld ?_
        try simp only [Act.put, List.getElem_toArray, List.getElem_cons_succ, List.getElem_cons_zero, List.setIfInBounds_toArray, List.set_cons_zero, List.set_cons_succ]
        refine wpAnyH_take (i := 17) (oi := _) (v := _) rfl (by kernel_rfl) (by kernel_rfl) (by kernel_rfl) (fun _ _ _ h => h) (yieldsIf_load_mid (by rfl) _ _ rfl _ _ rfl _ _ (by intro w hSw; exact hSw.2.1) u25 rfl i25x) hHeld ?_
        try simp only [Act.put, List.getElem_toArray, List.getElem_cons_succ, List.getElem_cons_zero, List.setIfInBounds_toArray, List.set_cons_zero, List.set_cons_succ]
        refine wpAnyH_take (i := 18) (oi := _) (v := _) rfl (by kernel_rfl) (by kernel_rfl) (by kernel_rfl) (fun _ _ _ h => h) (yieldsIf_load_mid (by rfl) _ _ rfl _ _ rfl _ _ (by intro w hSw; exact hSw.2.2.2) u25 rfl i25y) hHeld ?_
        try simp only [Act.put, List.getElem_toArray, List.getElem_cons_succ, List.getElem_cons_zero, List.setIfInBounds_toArray, List.set_cons_zero, List.set_cons_succ]
        refine wpAnyH_take (i := 20) (oi := _) (v := _) rfl (by kernel_rfl) (by kernel_rfl) (by kernel_rfl) (fun _ _ _ h => h) (Or.inl ⟨by rfl, by intro w hSw; (try dsimp only at hSw); go_simp; first | done | with_reducible rfl⟩) hHeld ?_
        try simp only [Act.put, List.getElem_toArray, List.getElem_cons_succ, List.getElem_cons_zero, List.setIfInBounds_toArray, List.set_cons_zero, List.set_cons_succ]
        refine wpAnyH_ready (rs := [19]) (by kernel_rfl) (by simp) ?_
        refine AllReadyH.cons (o := _) rfl (fun K hK => ?_) AllReadyH.nil
        go_simp
        go_at_call 14
        refine (HCM.out _).mono ?_
        rintro e wx2 ⟨rfl, hbx2⟩
        refine hK.out _ _ (keepR4 hbx2 hHeld) (fun hHeld2 => ?_)
        clear hK K hHeld
        have hHeld := hHeld2
        clear hHeld2
        try simp only [Act.put, List.getElem_toArray, List.getElem_cons_succ, List.getElem_cons_zero, List.setIfInBounds_toArray, List.set_cons_zero, List.set_cons_succ]
        refine wpAnyH_take (i := 21) (oi := _) (v := _) rfl (by kernel_rfl) (by kernel_rfl) (by kernel_rfl) (fun _ _ _ h => h) (Or.inl ⟨by rfl, by intro w hSw; (try dsimp only at hSw); go_simp; first | done | with_reducible rfl⟩) hHeld ?_
        try simp only [Act.put, List.getElem_toArray, List.getElem_cons_succ, List.getElem_cons_zero, List.setIfInBounds_toArray, List.set_cons_zero, List.set_cons_succ]
        refine wpAnyH_take (i := 22) (oi := _) (v := _) rfl (by kernel_rfl) (by kernel_rfl) (by kernel_rfl) (fun _ _ _ h => h) (Or.inl ⟨by rfl, by intro w hSw; (try dsimp only at hSw); go_simp; first | done | with_reducible rfl⟩) hHeld ?_
        try simp only [Act.put, List.getElem_toArray, List.getElem_cons_succ, List.getElem_cons_zero, List.setIfInBounds_toArray, List.set_cons_zero, List.set_cons_succ]
        refine wpAnyH_take (i := 23) (oi := _) (v := _) rfl (by kernel_rfl) (by kernel_rfl) (by kernel_rfl) (fun _ _ _ h => h) (Or.inl ⟨by rfl, by intro w hSw; (try dsimp only at hSw); go_simp; first | done | with_reducible rfl⟩) hHeld ?_
        try simp only [Act.put, List.getElem_toArray, List.getElem_cons_succ, List.getElem_cons_zero, List.setIfInBounds_toArray, List.set_cons_zero, List.set_cons_succ]
        refine wpAnyH_take (i := 24) (oi := _) (v := _) rfl (by kernel_rfl) (by kernel_rfl) (by kernel_rfl) (fun _ _ _ h => h) (Or.inl ⟨by rfl, by intro w hSw; (try dsimp only at hSw); go_simp; first | done | with_reducible rfl⟩) hHeld ?_
        try simp only [Act.put, List.getElem_toArray, List.getElem_cons_succ, List.getElem_cons_zero, List.setIfInBounds_toArray, List.set_cons_zero, List.set_cons_succ]
        refine wpAnyH_take (i := 25) (oi := _) (v := _) rfl (by kernel_rfl) (by kernel_rfl) (by kernel_rfl) (fun _ _ _ h => h) (yieldsIf_load_mid (by rfl) _ _ rfl _ _ rfl _ _ (by intro w hSw; exact hSw.2.1) u25 rfl i25x) hHeld ?_
        try simp only [Act.put, List.getElem_toArray, List.getElem_cons_succ, List.getElem_cons_zero, List.setIfInBounds_toArray, List.set_cons_zero, List.set_cons_succ]
        refine wpAnyH_take (i := 26) (oi := _) (v := _) rfl (by kernel_rfl) (by kernel_rfl) (by kernel_rfl) (fun _ _ _ h => h) (yieldsIf_load_mid (by rfl) _ _ rfl _ _ rfl _ _ (by intro w hSw; exact hSw.2.2.2) u25 rfl i25y) hHeld ?_
        try simp only [Act.put, List.getElem_toArray, List.getElem_cons_succ, List.getElem_cons_zero, List.setIfInBounds_toArray, List.set_cons_zero, List.set_cons_succ]
        refine wpAnyH_ready (rs := [27]) (by kernel_rfl) (by simp) ?_
        refine AllReadyH.cons (o := _) rfl (fun K hK => ?_) AllReadyH.nil
        go_simp
        go_at_call 15
        refine (HRC.out _).mono ?_
        rintro e wx3 ⟨rfl, hbx3⟩
        refine hK.out _ _ (keepR4 hbx3 hHeld) (fun hHeld2 => ?_)
        clear hK K hHeld
        have hHeld := hHeld2
        clear hHeld2
        try simp only [Act.put, List.getElem_toArray, List.getElem_cons_succ, List.getElem_cons_zero, List.setIfInBounds_toArray, List.set_cons_zero, List.set_cons_succ]
        refine wpAnyH_take (i := 28) (oi := _) (v := _) rfl (by kernel_rfl) (by kernel_rfl) (by kernel_rfl) (fun _ _ _ h => h) (Or.inl ⟨by rfl, by intro w hSw; (try dsimp only at hSw); go_simp; first | done | with_reducible rfl⟩) hHeld ?_
        try simp only [Act.put, List.getElem_toArray, List.getElem_cons_succ, List.getElem_cons_zero, List.setIfInBounds_toArray, List.set_cons_zero, List.set_cons_succ]
        refine wpAnyH_take (i := 29) (oi := _) (v := _) rfl (by kernel_rfl) (by kernel_rfl) (by kernel_rfl) (fun _ _ _ h => h) (Or.inl ⟨by rfl, by intro w hSw; (try dsimp only at hSw); go_simp; first | done | with_reducible rfl⟩) hHeld ?_
        try simp only [Act.put, List.getElem_toArray, List.getElem_cons_succ, List.getElem_cons_zero, List.setIfInBounds_toArray, List.set_cons_zero, List.set_cons_succ]
        refine wpAnyH_take (i := 30) (oi := _) (v := _) rfl (by kernel_rfl) (by kernel_rfl) (by kernel_rfl) (fun _ _ _ h => h) (Or.inl ⟨by rfl, by intro w hSw; (try dsimp only at hSw); go_simp; first | done | with_reducible rfl⟩) hHeld ?_
        try simp only [Act.put, List.getElem_toArray, List.getElem_cons_succ, List.getElem_cons_zero, List.setIfInBounds_toArray, List.set_cons_zero, List.set_cons_succ]
        refine wpAnyH_done (by kernel_rfl) ?_ _
        have b1 := hbel.drew.trans (hbx1.mono hbel.drew.size)
        have b2 := b1.trans (hbx2.mono b1.size)
        have b3 := b2.trans (hbx3.mono b2.size)
        clear hHeld hbx1 hbx2 hbx3 hbel b1 b2
        go_wp2_with fail
        go_ret
        exact ⟨rfl, b3⟩
      · rw [show ((s + 1 : Nat) : Int) - 1 = (s : Int) by omega]
        as_aux_lemma =>
        have hs4 : s < 32 := by omega
        have hsi : (s : Int) < 32 := by omega
        have c0 := K3.out.nat s (by rw [LU.out]; exact hs4)
        have c1 := K4.out.nat s (by rw [LV.out]; exact hs4)
        rw [AU.out s hs4] at c0
        rw [AV.out s hs4] at c1
        have HSP := Lib.hid (HST.out (31 - s))
        rw [show 31 - s + 1 = 32 - s by omega, show 31 - s = 32 - (s + 1) by omega] at HSP
        rw [show 31 - s = 32 - (s + 1) by omega] at c0 c1
        generalize dgt 256 x (32 - (s + 1)) = p at *
        generalize dgt 256 y (32 - (s + 1)) = q at *
        generalize cmpZ (x % 256 ^ (32 - (s + 1))) (y % 256 ^ (32 - (s + 1))) = cp at *
        by_cases h1 : p < q
        · have hpq : (p : Int) < (q : Int) := by omega
          have hqp : ¬ ((q : Int) < (p : Int)) := by omega
          rw [if_pos h1] at HSP
          go_wp2_with fail
          go_quiet (fail)
          go_wp2_with fail
          go_quiet (fail)
          go_wp2_with fail
          go_roundw
          case rel => exact ⟨s, by omega, rfl, by rw [HSP.out], K1.out, K2.out, K3.out, K4.out, K5.out, below_drewN hbel _⟩
          case measure => simp [intOf] <;> omega
        · have hpq : ¬ ((p : Int) < (q : Int)) := by omega
          rw [if_neg h1] at HSP
          by_cases h2 : q < p
          · have hqp : (q : Int) < (p : Int) := by omega
            rw [if_pos h2] at HSP
            go_wp2_with fail
            go_quiet (fail)
            go_wp2_with fail
            go_quiet (fail)
            go_wp2_with fail
            go_roundw
            case rel => exact ⟨s, by omega, rfl, by rw [HSP.out], K1.out, K2.out, K3.out, K4.out, K5.out, below_drewN hbel _⟩
            case measure => simp [intOf] <;> omega
          · have hqp : ¬ ((q : Int) < (p : Int)) := by omega
            rw [if_neg h2] at HSP
            go_wp2_with fail
            go_quiet (fail)
            go_wp2_with fail
            go_quiet (fail)
            go_wp2_with fail
            go_roundw
            case rel => exact ⟨s, by omega, rfl, by rw [HSP.out], K1.out, K2.out, K3.out, K4.out, K5.out, below_drewN hbel _⟩
            case measure => simp [intOf] <;> omega
end Go.Proofs.Ytmibkgdfgaiedaa
