/- The document's step of a division bit by bit. Condition: the rest is less than the divisor. -/
import Derived.Test.YtfffmoolkgheaaaRa
import Derived.Test.YtfffmoolkgheaaaRb
import Derived.Test.YtfffmoolkgheaaaG
import Derived.Test.YtfffmoolkgheaaaKf
import Derived.Test.YtfffmoolkgheaaaSu
import Derived.Deep.DeepCutAuto
namespace Go.Proofs.Ytfffmoolkgheaaa
open Go.RowKit
set_option linter.unusedVariables false
set_option linter.unusedSimpArgs false
theorem low_bit (r bit : Nat) (hb : bit ≤ 1) : dgt (2 ^ 64) (r + r) 0 + bit = dgt (2 ^ 64) (2 * r + bit) 0 ∧ dgt (2 ^ 64) (r + r) 0 + bit < 18446744073709551616 := by
  unfold dgt
  rw [Nat.pow_zero, Nat.div_one, Nat.div_one]
  show (r + r) % 18446744073709551616 + bit = (2 * r + bit) % 18446744073709551616 ∧ (r + r) % 18446744073709551616 + bit < 18446744073709551616
  omega
theorem high_bit (r bit i : Nat) (hb : bit ≤ 1) (hi : 0 < i) : dgt (2 ^ 64) (r + r) i = dgt (2 ^ 64) (2 * r + bit) i := by
  obtain ⟨j, rfl⟩ : ∃ j, i = j + 1 := ⟨i - 1, by omega⟩
  have e : (2 * r + bit) / 2 ^ 64 = (r + r) / 2 ^ 64 := by
    show (2 * r + bit) / 18446744073709551616 = (r + r) / 18446744073709551616
    omega
  rw [dgt_succ, dgt_succ, e]
theorem set_bit (r bit : Nat) (hb : bit ≤ 1) : (wds 4 (r + r)).set 0 (dgt (2 ^ 64) (2 * r + bit) 0) = wds 4 (2 * r + bit) := by
  have e1 : wds 4 (r + r) = [dgt (2 ^ 64) (r + r) 0, dgt (2 ^ 64) (r + r) 1, dgt (2 ^ 64) (r + r) 2, dgt (2 ^ 64) (r + r) 3] := rfl
  have e2 : wds 4 (2 * r + bit) = [dgt (2 ^ 64) (2 * r + bit) 0, dgt (2 ^ 64) (2 * r + bit) 1, dgt (2 ^ 64) (2 * r + bit) 2, dgt (2 ^ 64) (2 * r + bit) 3] := rfl
  rw [e1, e2, high_bit r bit 1 hb (by omega), high_bit r bit 2 hb (by omega), high_bit r bit 3 hb (by omega)]; rfl
/-- what a step leaves, and whether m went into it -/
def twR (r bit m : Nat) : Nat := (2 * r + bit) % m
theorem twR_small (r bit m : Nat) (h : 2 * r + bit < m) : twR r bit m = 2 * r + bit := Nat.mod_eq_of_lt h
theorem twR_big (r bit m : Nat) (hr : r < m) (hb : bit ≤ 1) (h : m ≤ 2 * r + bit) : twR r bit m = 2 * r + bit - m := by
  unfold twR; rw [Nat.mod_eq_sub_mod h, Nat.mod_eq_of_lt (by omega)]
set_option maxRecDepth 100000 in
set_option maxHeartbeats 1600000 in
theorem twice_cy (r bit m : Nat) (w : World) (hr : r < m) (hb : bit ≤ 1) (hm : m < 2 ^ 256) (hcy : 2 ^ 256 ≤ 2 * r + bit) :
    Calls Try.prog 55 #[.agg (natsV .u64 (wds 4 r)).toArray, .int .i64 (bit : Nat), .agg (natsV .u64 (wds 4 m)).toArray] w fun e w' => e = .returned (.tuple #[.agg (natsV .u64 (wds 4 (twR r bit m))).toArray, .bool true]) ∧ Below w.heap.size w w' := by
  have HA := Lib.hid (fun w => refAdd_any r r w (by omega) (by omega))
  have hadd : addC r r = 1 := by
    unfold addC
    omega
  rw [hadd] at HA
  obtain ⟨hl1, hl2⟩ := low_bit r bit hb
  have hset := set_bit r bit hb
  have A0 := wds_at 4 (r + r) 0 (by omega)
  have HS := Lib.hid (fun w => refSub_any (2 * r + bit - 2 ^ 256) m w (by omega) hm)
  rw [show 2 * r + bit - 2 ^ 256 + 2 ^ 256 - m = twR r bit m by rw [twR_big r bit m hr hb (by omega)]; omega] at HS
  have hwd : wds 4 (2 * r + bit - 2 ^ 256) = wds 4 (2 * r + bit) := by
    have := wds_add_pow 4 (2 * r + bit - 2 ^ 256) 1
    rw [show 2 * r + bit - 2 ^ 256 + 2 ^ (64 * 4) * 1 = 2 * r + bit by rw [show 2 ^ (64 * 4) = 2 ^ 256 from rfl]; omega] at this
    exact this.symm
  rw [hwd] at HS
  have LR := Lib.hid (wds_len 4 (twR r bit m))
  generalize wds 4 (twR r bit m) = lr at *
  have LS := Lib.hid (wds_len 4 (r + r))
  have LT := Lib.hid (wds_len 4 (2 * r + bit))
  have LRR := Lib.hid (wds_len 4 r)
  have LM := Lib.hid (wds_len 4 m)
  generalize wds 4 (2 * r + bit) = lt at *
  generalize wds 4 (r + r) = ls at *
  generalize wds 4 r = l0 at *
  generalize wds 4 m = lm at *
  generalize dgt (2 ^ 64) (2 * r + bit) 0 = d1 at *
  generalize dgt (2 ^ 64) (r + r) 0 = d0 at *
  have hconv := u64_in bit (by omega)
  have hplus : IntKind.u64.wrap ((d0 : Int) + (bit : Int)) = (d1 : Int) := by rw [IntKind.wrap_u64]; omega
  have HSET := Lib.hid hset
  clear hset hadd hl1 hl2 hr hm hcy hwd
  have B1 := Lib.hid (((Blk.new w 24 (natsV .u64 l0)).alloc (.cells (natsV .u64 lm).toArray 24)).alloc (.cells (natsV .u64 (zeros 4)).toArray 24))
  have B2 := Lib.hid ((Blk.new2 w (.cells (natsV .u64 l0).toArray 24) 24 (natsV .u64 lm)).alloc (.cells (natsV .u64 (zeros 4)).toArray 24))
  have B3 := Lib.hid (Blk.new3 w (.cells (natsV .u64 l0).toArray 24) (.cells (natsV .u64 lm).toArray 24) 24 (natsV .u64 (zeros 4)))
  have BEL := Lib.hid ((((Below.refl w.heap.size w).alloc (Nat.le_refl _) (.cells (natsV .u64 l0).toArray 24)).alloc (by simp) (.cells (natsV .u64 lm).toArray 24)).alloc (by simp; omega) (.cells (natsV .u64 (zeros 4)).toArray 24))
  go_enter Try.func55, Try.ntmps55
  go_wp2_with (first | (refine ld24 rfl (.tmp 3) rfl w.heap.size rfl l0 B1.out LRR.out ?_))
  refine (HA.out _).mono ?_
  rintro e w1 ⟨rfl, hbw1⟩
  have C2 := Lib.hid (B1.out.below' hbw1)
  have C3 := Lib.hid (B2.out.below' hbw1)
  have C4 := Lib.hid (B3.out.below' hbw1)
  have hbel5 := BEL.out.trans (hbw1.mono BEL.out.size)
  clear B1 B2 B3 hbw1
  clear C2
  have Z7 := Lib.hid (Blk.new w1 24 (natsV .u64 (zeros 4)))
  have hz8 := Lib.hid (below_setRow' (hbel5.alloc hbel5.size (.cells (natsV .u64 (zeros 4)).toArray 24)) hbel5.size (natsV .u64 ls).toArray)
  have Y9 := Lib.hid ((C3.out.alloc (.cells (natsV .u64 (zeros 4)).toArray 24)).row (natsV .u64 ls).toArray (Nat.ne_of_lt C3.out.lt))
  have Y10 := Lib.hid ((C4.out.alloc (.cells (natsV .u64 (zeros 4)).toArray 24)).row (natsV .u64 ls).toArray (Nat.ne_of_lt C4.out.lt))
  have Y11 := Lib.hid (Z7.out.setRow (natsV .u64 ls))
  go_upto_region 3 with (first | (refine st24 rfl (.tmp 8) (.tmp 16) rfl w1.heap.size rfl ls rfl LS.out (zeros 4) Z7.out rfl ?_; generalize hW : World.setRow _ _ _ = w6; have D13 := Lib.hid (show Blk w6 (w.heap.size + 1) 24 (natsV .u64 lm) from (by rw [← hW]; exact Y9.out)); have D14 := Lib.hid (show Blk w6 (w.heap.size + 1 + 1) 24 (natsV .u64 (zeros 4)) from (by rw [← hW]; exact Y10.out)); have D15 := Lib.hid (show Blk w6 w1.heap.size 24 (natsV .u64 ls) from (by rw [← hW]; exact Y11.out)); have LE_D15 := (hbel5).size; have NE_D13 := Nat.ne_of_lt C3.out.lt; have NE_D14 := Nat.ne_of_lt C4.out.lt; have hbel16 : Below w.heap.size w w6 := (by rw [← hW]; exact hz8.out); clear hW Z7 hz8 C3 C4 Y9 Y10 Y11 hbel5; generalize w1.heap.size = G12 at *; have c0 := D15.out.nat 0 (by rw [LS.out]; decide); rw [A0] at c0; have f0 := D15.out.free 0))
  try simp only [Act.put]
  have S17 := Lib.hid (D13.out.other ⟨G12, 0, none⟩ (.int .u64 (d1 : Nat)) (show (w.heap.size + 1) ≠ G12 by first | assumption | omega))
  have S18 := Lib.hid (D14.out.other ⟨G12, 0, none⟩ (.int .u64 (d1 : Nat)) (show (w.heap.size + 1 + 1) ≠ G12 by first | assumption | omega))
  have S19 := Lib.hid (D15.out.natSet 0 d1)
  rw [HSET.out] at S19
  have hbel20 := (hbel16).setCell (p := ⟨G12, 0, none⟩) (show w.heap.size ≤ G12 by omega) (.int .u64 (d1 : Nat))
  clear c0 f0 HSET D13 D14 D15 hbel16
  generalize w6.setCell ⟨G12, 0, none⟩ (.int .u64 (d1 : Nat)) = wS at *
  as_aux_lemma =>
  go_wp2_with (first | (refine ld24 rfl (.tmp 8) rfl G12 rfl lt S19.out LT.out ?_) | (refine ld24 rfl (.tmp 5) rfl (w.heap.size + 1) rfl lm S17.out LM.out ?_))
  refine (HS.out _).mono ?_
  rintro e w21 ⟨rfl, hbw21⟩
  have C22 := Lib.hid (S17.out.below' hbw21)
  have C23 := Lib.hid (S18.out.below' hbw21)
  have C24 := Lib.hid (S19.out.below' hbw21)
  have hbel25 := hbel20.trans (hbw21.mono hbel20.size)
  clear S17 S18 S19 hbw21 hbel20
  have Z27 := Lib.hid (Blk.new w21 24 (natsV .u64 (zeros 4)))
  have hz28 := Lib.hid (below_setRow' (hbel25.alloc hbel25.size (.cells (natsV .u64 (zeros 4)).toArray 24)) hbel25.size (natsV .u64 lr).toArray)
  have Y29 := Lib.hid ((C22.out.alloc (.cells (natsV .u64 (zeros 4)).toArray 24)).row (natsV .u64 lr).toArray (Nat.ne_of_lt C22.out.lt))
  have Y30 := Lib.hid ((C23.out.alloc (.cells (natsV .u64 (zeros 4)).toArray 24)).row (natsV .u64 lr).toArray (Nat.ne_of_lt C23.out.lt))
  have Y31 := Lib.hid ((C24.out.alloc (.cells (natsV .u64 (zeros 4)).toArray 24)).row (natsV .u64 lr).toArray (Nat.ne_of_lt C24.out.lt))
  have Y32 := Lib.hid (Z27.out.setRow (natsV .u64 lr))
  go_wp2_with (first | (refine st24 rfl (.tmp 10) (.tmp 37) rfl w21.heap.size rfl lr rfl LR.out (zeros 4) Z27.out rfl ?_; generalize hW : World.setRow _ _ _ = w26; have D34 := Lib.hid (show Blk w26 (w.heap.size + 1) 24 (natsV .u64 lm) from (by rw [← hW]; exact Y29.out)); have D35 := Lib.hid (show Blk w26 (w.heap.size + 1 + 1) 24 (natsV .u64 (zeros 4)) from (by rw [← hW]; exact Y30.out)); have D36 := Lib.hid (show Blk w26 G12 24 (natsV .u64 lt) from (by rw [← hW]; exact Y31.out)); have D37 := Lib.hid (show Blk w26 w21.heap.size 24 (natsV .u64 lr) from (by rw [← hW]; exact Y32.out)); have LE_D37 := (hbel25).size; have NE_D34 := Nat.ne_of_lt C22.out.lt; have NE_D35 := Nat.ne_of_lt C23.out.lt; have NE_D36 := Nat.ne_of_lt C24.out.lt; have hbel38 : Below w.heap.size w w26 := (by rw [← hW]; exact hz28.out); clear hW Z27 hz28 C22 C23 C24 Y29 Y30 Y31 Y32 hbel25; generalize w21.heap.size = G33 at *) | (refine ld24 rfl (.tmp 10) rfl G33 rfl lr D37.out LR.out ?_) | (refine st24 rfl (.tmp 6) (.tmp 39) rfl (w.heap.size + 1 + 1) rfl lr rfl LR.out (zeros 4) D35.out rfl ?_))
  refine bodyPost_ret (v := .tuple #[.agg (natsV .u64 lr).toArray, .bool true]) ?_ rfl ⟨rfl, below_setRow' hbel38 (by first | exact Nat.le_refl _ | omega) _⟩
  exact ret24x Try.results55 _ _ (w.heap.size + 1 + 1) lr _ rfl rfl (D35.out.setRow _) LR.out
set_option maxRecDepth 100000 in
set_option maxHeartbeats 1600000 in
theorem twice_lt (r bit m : Nat) (w : World) (hr : r < m) (hb : bit ≤ 1) (hm : m < 2 ^ 256) (hlt : 2 * r + bit < m) :
    Calls Try.prog 55 #[.agg (natsV .u64 (wds 4 r)).toArray, .int .i64 (bit : Nat), .agg (natsV .u64 (wds 4 m)).toArray] w fun e w' => e = .returned (.tuple #[.agg (natsV .u64 (wds 4 (twR r bit m))).toArray, .bool false]) ∧ Below w.heap.size w w' := by
  have HA := Lib.hid (fun w => refAdd_any r r w (by omega) (by omega))
  have hadd : addC r r = 0 := by
    unfold addC
    rw [Nat.div_eq_of_lt (by omega)]
  rw [hadd] at HA
  obtain ⟨hl1, hl2⟩ := low_bit r bit hb
  have hset := set_bit r bit hb
  have A0 := wds_at 4 (r + r) 0 (by omega)
  have HC := Lib.hid (fun w => refCmp_any (2 * r + bit) m w (by omega) hm)
  rw [cmpZ_lt hlt] at HC
  rw [twR_small r bit m hlt]
  have LS := Lib.hid (wds_len 4 (r + r))
  have LT := Lib.hid (wds_len 4 (2 * r + bit))
  have LRR := Lib.hid (wds_len 4 r)
  have LM := Lib.hid (wds_len 4 m)
  generalize wds 4 (2 * r + bit) = lt at *
  generalize wds 4 (r + r) = ls at *
  generalize wds 4 r = l0 at *
  generalize wds 4 m = lm at *
  generalize dgt (2 ^ 64) (2 * r + bit) 0 = d1 at *
  generalize dgt (2 ^ 64) (r + r) 0 = d0 at *
  have hconv := u64_in bit (by omega)
  have hplus : IntKind.u64.wrap ((d0 : Int) + (bit : Int)) = (d1 : Int) := by rw [IntKind.wrap_u64]; omega
  have HSET := Lib.hid hset
  clear hset hadd hl1 hl2 hr hm hlt
  have B1 := Lib.hid (((Blk.new w 24 (natsV .u64 l0)).alloc (.cells (natsV .u64 lm).toArray 24)).alloc (.cells (natsV .u64 (zeros 4)).toArray 24))
  have B2 := Lib.hid ((Blk.new2 w (.cells (natsV .u64 l0).toArray 24) 24 (natsV .u64 lm)).alloc (.cells (natsV .u64 (zeros 4)).toArray 24))
  have B3 := Lib.hid (Blk.new3 w (.cells (natsV .u64 l0).toArray 24) (.cells (natsV .u64 lm).toArray 24) 24 (natsV .u64 (zeros 4)))
  have BEL := Lib.hid ((((Below.refl w.heap.size w).alloc (Nat.le_refl _) (.cells (natsV .u64 l0).toArray 24)).alloc (by simp) (.cells (natsV .u64 lm).toArray 24)).alloc (by simp; omega) (.cells (natsV .u64 (zeros 4)).toArray 24))
  go_enter Try.func55, Try.ntmps55
  go_wp2_with (first | (refine ld24 rfl (.tmp 3) rfl w.heap.size rfl l0 B1.out LRR.out ?_))
  refine (HA.out _).mono ?_
  rintro e w1 ⟨rfl, hbw1⟩
  have C2 := Lib.hid (B1.out.below' hbw1)
  have C3 := Lib.hid (B2.out.below' hbw1)
  have C4 := Lib.hid (B3.out.below' hbw1)
  have hbel5 := BEL.out.trans (hbw1.mono BEL.out.size)
  clear B1 B2 B3 hbw1
  clear C2
  have Z7 := Lib.hid (Blk.new w1 24 (natsV .u64 (zeros 4)))
  have hz8 := Lib.hid (below_setRow' (hbel5.alloc hbel5.size (.cells (natsV .u64 (zeros 4)).toArray 24)) hbel5.size (natsV .u64 ls).toArray)
  have Y9 := Lib.hid ((C3.out.alloc (.cells (natsV .u64 (zeros 4)).toArray 24)).row (natsV .u64 ls).toArray (Nat.ne_of_lt C3.out.lt))
  have Y10 := Lib.hid ((C4.out.alloc (.cells (natsV .u64 (zeros 4)).toArray 24)).row (natsV .u64 ls).toArray (Nat.ne_of_lt C4.out.lt))
  have Y11 := Lib.hid (Z7.out.setRow (natsV .u64 ls))
  go_upto_region 3 with (first | (refine st24 rfl (.tmp 8) (.tmp 16) rfl w1.heap.size rfl ls rfl LS.out (zeros 4) Z7.out rfl ?_; generalize hW : World.setRow _ _ _ = w6; have D13 := Lib.hid (show Blk w6 (w.heap.size + 1) 24 (natsV .u64 lm) from (by rw [← hW]; exact Y9.out)); have D14 := Lib.hid (show Blk w6 (w.heap.size + 1 + 1) 24 (natsV .u64 (zeros 4)) from (by rw [← hW]; exact Y10.out)); have D15 := Lib.hid (show Blk w6 w1.heap.size 24 (natsV .u64 ls) from (by rw [← hW]; exact Y11.out)); have LE_D15 := (hbel5).size; have NE_D13 := Nat.ne_of_lt C3.out.lt; have NE_D14 := Nat.ne_of_lt C4.out.lt; have hbel16 : Below w.heap.size w w6 := (by rw [← hW]; exact hz8.out); clear hW Z7 hz8 C3 C4 Y9 Y10 Y11 hbel5; generalize w1.heap.size = G12 at *; have c0 := D15.out.nat 0 (by rw [LS.out]; decide); rw [A0] at c0; have f0 := D15.out.free 0))
  try simp only [Act.put]
  have S17 := Lib.hid (D13.out.other ⟨G12, 0, none⟩ (.int .u64 (d1 : Nat)) (show (w.heap.size + 1) ≠ G12 by first | assumption | omega))
  have S18 := Lib.hid (D14.out.other ⟨G12, 0, none⟩ (.int .u64 (d1 : Nat)) (show (w.heap.size + 1 + 1) ≠ G12 by first | assumption | omega))
  have S19 := Lib.hid (D15.out.natSet 0 d1)
  rw [HSET.out] at S19
  have hbel20 := (hbel16).setCell (p := ⟨G12, 0, none⟩) (show w.heap.size ≤ G12 by omega) (.int .u64 (d1 : Nat))
  clear c0 f0 HSET D13 D14 D15 hbel16
  generalize w6.setCell ⟨G12, 0, none⟩ (.int .u64 (d1 : Nat)) = wS at *
  as_aux_lemma =>
  go_wp2_with (first | (refine ldw 24 (.tmp 8) rfl G12 rfl .u64 lt S19.out _ _ Try.underlying24 (by rw [info24, LT.out]) 2 rfl 26 rfl rfl ?_) | (refine ldw 24 (.tmp 5) rfl (w.heap.size + 1) rfl .u64 lm S17.out _ _ Try.underlying24 (by rw [info24, LM.out]) 2 rfl 26 rfl rfl ?_))
  refine (HC.out _).mono ?_
  rintro e w21 ⟨rfl, hbw21⟩
  have C22 := Lib.hid (S17.out.below' hbw21)
  have C23 := Lib.hid (S18.out.below' hbw21)
  have C24 := Lib.hid (S19.out.below' hbw21)
  have hbel25 := hbel20.trans (hbw21.mono hbel20.size)
  clear S17 S18 S19 hbw21 hbel20
  go_wp2_with (first | (refine ld24 rfl (.tmp 8) rfl G12 rfl lt C24.out LT.out ?_) | (refine st24 rfl (.tmp 6) (.tmp 32) rfl (w.heap.size + 1 + 1) rfl lt rfl LT.out (zeros 4) C23.out rfl ?_))
  refine bodyPost_ret (v := .tuple #[.agg (natsV .u64 lt).toArray, .bool false]) ?_ rfl ⟨rfl, below_setRow' hbel25 (by first | exact Nat.le_refl _ | omega) _⟩
  exact ret24x Try.results55 _ _ (w.heap.size + 1 + 1) lt _ rfl rfl (C23.out.setRow _) LT.out
set_option maxRecDepth 100000 in
set_option maxHeartbeats 1600000 in
theorem twice_ge (r bit m : Nat) (w : World) (hr : r < m) (hb : bit ≤ 1) (hm : m < 2 ^ 256) (hcy : 2 * r + bit < 2 ^ 256) (hge : m ≤ 2 * r + bit) :
    Calls Try.prog 55 #[.agg (natsV .u64 (wds 4 r)).toArray, .int .i64 (bit : Nat), .agg (natsV .u64 (wds 4 m)).toArray] w fun e w' => e = .returned (.tuple #[.agg (natsV .u64 (wds 4 (twR r bit m))).toArray, .bool true]) ∧ Below w.heap.size w w' := by
  have HA := Lib.hid (fun w => refAdd_any r r w (by omega) (by omega))
  have hadd : addC r r = 0 := by
    unfold addC
    rw [Nat.div_eq_of_lt (by omega)]
  rw [hadd] at HA
  obtain ⟨hl1, hl2⟩ := low_bit r bit hb
  have hset := set_bit r bit hb
  have A0 := wds_at 4 (r + r) 0 (by omega)
  have HC := Lib.hid (fun w => refCmp_any (2 * r + bit) m w hcy hm)
  have HS := Lib.hid (fun w => refSub_any (2 * r + bit) m w hcy hm)
  have hwd : wds 4 (2 * r + bit + 2 ^ 256 - m) = wds 4 (twR r bit m) := by
    rw [twR_big r bit m hr hb hge]
    have := wds_add_pow 4 (2 * r + bit - m) 1
    rw [show 2 * r + bit - m + 2 ^ (64 * 4) * 1 = 2 * r + bit + 2 ^ 256 - m by rw [show 2 ^ (64 * 4) = 2 ^ 256 from rfl]; omega] at this
    exact this
  rw [hwd] at HS
  have hcz : ¬ cmpZ (2 * r + bit) m < 0 := by
    rcases Nat.lt_or_ge m (2 * r + bit) with h3 | h3
    · rw [cmpZ_gt h3]; decide
    · rw [show 2 * r + bit = m by omega, cmpZ_self]; decide
  have hcz2 : (0 : Int) ≤ cmpZ (2 * r + bit) m := by omega
  generalize cmpZ (2 * r + bit) m = cz at *
  have LR := Lib.hid (wds_len 4 (twR r bit m))
  generalize wds 4 (twR r bit m) = lr at *
  have LS := Lib.hid (wds_len 4 (r + r))
  have LT := Lib.hid (wds_len 4 (2 * r + bit))
  have LRR := Lib.hid (wds_len 4 r)
  have LM := Lib.hid (wds_len 4 m)
  generalize wds 4 (2 * r + bit) = lt at *
  generalize wds 4 (r + r) = ls at *
  generalize wds 4 r = l0 at *
  generalize wds 4 m = lm at *
  generalize dgt (2 ^ 64) (2 * r + bit) 0 = d1 at *
  generalize dgt (2 ^ 64) (r + r) 0 = d0 at *
  have hconv := u64_in bit (by omega)
  have hplus : IntKind.u64.wrap ((d0 : Int) + (bit : Int)) = (d1 : Int) := by rw [IntKind.wrap_u64]; omega
  have HSET := Lib.hid hset
  clear hset hadd hl1 hl2 hr hm hcy hge hwd
  have B1 := Lib.hid (((Blk.new w 24 (natsV .u64 l0)).alloc (.cells (natsV .u64 lm).toArray 24)).alloc (.cells (natsV .u64 (zeros 4)).toArray 24))
  have B2 := Lib.hid ((Blk.new2 w (.cells (natsV .u64 l0).toArray 24) 24 (natsV .u64 lm)).alloc (.cells (natsV .u64 (zeros 4)).toArray 24))
  have B3 := Lib.hid (Blk.new3 w (.cells (natsV .u64 l0).toArray 24) (.cells (natsV .u64 lm).toArray 24) 24 (natsV .u64 (zeros 4)))
  have BEL := Lib.hid ((((Below.refl w.heap.size w).alloc (Nat.le_refl _) (.cells (natsV .u64 l0).toArray 24)).alloc (by simp) (.cells (natsV .u64 lm).toArray 24)).alloc (by simp; omega) (.cells (natsV .u64 (zeros 4)).toArray 24))
  go_enter Try.func55, Try.ntmps55
  go_wp2_with (first | (refine ld24 rfl (.tmp 3) rfl w.heap.size rfl l0 B1.out LRR.out ?_))
  refine (HA.out _).mono ?_
  rintro e w1 ⟨rfl, hbw1⟩
  have C2 := Lib.hid (B1.out.below' hbw1)
  have C3 := Lib.hid (B2.out.below' hbw1)
  have C4 := Lib.hid (B3.out.below' hbw1)
  have hbel5 := BEL.out.trans (hbw1.mono BEL.out.size)
  clear B1 B2 B3 hbw1
  clear C2
  have Z7 := Lib.hid (Blk.new w1 24 (natsV .u64 (zeros 4)))
  have hz8 := Lib.hid (below_setRow' (hbel5.alloc hbel5.size (.cells (natsV .u64 (zeros 4)).toArray 24)) hbel5.size (natsV .u64 ls).toArray)
  have Y9 := Lib.hid ((C3.out.alloc (.cells (natsV .u64 (zeros 4)).toArray 24)).row (natsV .u64 ls).toArray (Nat.ne_of_lt C3.out.lt))
  have Y10 := Lib.hid ((C4.out.alloc (.cells (natsV .u64 (zeros 4)).toArray 24)).row (natsV .u64 ls).toArray (Nat.ne_of_lt C4.out.lt))
  have Y11 := Lib.hid (Z7.out.setRow (natsV .u64 ls))
  go_upto_region 3 with (first | (refine st24 rfl (.tmp 8) (.tmp 16) rfl w1.heap.size rfl ls rfl LS.out (zeros 4) Z7.out rfl ?_; generalize hW : World.setRow _ _ _ = w6; have D13 := Lib.hid (show Blk w6 (w.heap.size + 1) 24 (natsV .u64 lm) from (by rw [← hW]; exact Y9.out)); have D14 := Lib.hid (show Blk w6 (w.heap.size + 1 + 1) 24 (natsV .u64 (zeros 4)) from (by rw [← hW]; exact Y10.out)); have D15 := Lib.hid (show Blk w6 w1.heap.size 24 (natsV .u64 ls) from (by rw [← hW]; exact Y11.out)); have LE_D15 := (hbel5).size; have NE_D13 := Nat.ne_of_lt C3.out.lt; have NE_D14 := Nat.ne_of_lt C4.out.lt; have hbel16 : Below w.heap.size w w6 := (by rw [← hW]; exact hz8.out); clear hW Z7 hz8 C3 C4 Y9 Y10 Y11 hbel5; generalize w1.heap.size = G12 at *; have c0 := D15.out.nat 0 (by rw [LS.out]; decide); rw [A0] at c0; have f0 := D15.out.free 0))
  try simp only [Act.put]
  have S17 := Lib.hid (D13.out.other ⟨G12, 0, none⟩ (.int .u64 (d1 : Nat)) (show (w.heap.size + 1) ≠ G12 by first | assumption | omega))
  have S18 := Lib.hid (D14.out.other ⟨G12, 0, none⟩ (.int .u64 (d1 : Nat)) (show (w.heap.size + 1 + 1) ≠ G12 by first | assumption | omega))
  have S19 := Lib.hid (D15.out.natSet 0 d1)
  rw [HSET.out] at S19
  have hbel20 := (hbel16).setCell (p := ⟨G12, 0, none⟩) (show w.heap.size ≤ G12 by omega) (.int .u64 (d1 : Nat))
  clear c0 f0 HSET D13 D14 D15 hbel16
  generalize w6.setCell ⟨G12, 0, none⟩ (.int .u64 (d1 : Nat)) = wS at *
  as_aux_lemma =>
  go_wp2_with (first | (refine ldw 24 (.tmp 8) rfl G12 rfl .u64 lt S19.out _ _ Try.underlying24 (by rw [info24, LT.out]) 2 rfl 26 rfl rfl ?_) | (refine ldw 24 (.tmp 5) rfl (w.heap.size + 1) rfl .u64 lm S17.out _ _ Try.underlying24 (by rw [info24, LM.out]) 2 rfl 26 rfl rfl ?_))
  refine (HC.out _).mono ?_
  rintro e w21 ⟨rfl, hbw21⟩
  have C22 := Lib.hid (S17.out.below' hbw21)
  have C23 := Lib.hid (S18.out.below' hbw21)
  have C24 := Lib.hid (S19.out.below' hbw21)
  have hbel25 := hbel20.trans (hbw21.mono hbel20.size)
  clear S17 S18 S19 hbw21 hbel20
  go_wp2_with (first | (refine ld24 rfl (.tmp 8) rfl G12 rfl lt C24.out LT.out ?_) | (refine ld24 rfl (.tmp 5) rfl (w.heap.size + 1) rfl lm C22.out LM.out ?_))
  refine (HS.out _).mono ?_
  rintro e w26 ⟨rfl, hbw26⟩
  have C27 := Lib.hid (C22.out.below' hbw26)
  have C28 := Lib.hid (C23.out.below' hbw26)
  have C29 := Lib.hid (C24.out.below' hbw26)
  have hbel30 := hbel25.trans (hbw26.mono hbel25.size)
  clear C22 C23 C24 hbw26 hbel25
  have Z32 := Lib.hid (Blk.new w26 24 (natsV .u64 (zeros 4)))
  have hz33 := Lib.hid (below_setRow' (hbel30.alloc hbel30.size (.cells (natsV .u64 (zeros 4)).toArray 24)) hbel30.size (natsV .u64 lr).toArray)
  have Y34 := Lib.hid ((C27.out.alloc (.cells (natsV .u64 (zeros 4)).toArray 24)).row (natsV .u64 lr).toArray (Nat.ne_of_lt C27.out.lt))
  have Y35 := Lib.hid ((C28.out.alloc (.cells (natsV .u64 (zeros 4)).toArray 24)).row (natsV .u64 lr).toArray (Nat.ne_of_lt C28.out.lt))
  have Y36 := Lib.hid ((C29.out.alloc (.cells (natsV .u64 (zeros 4)).toArray 24)).row (natsV .u64 lr).toArray (Nat.ne_of_lt C29.out.lt))
  have Y37 := Lib.hid (Z32.out.setRow (natsV .u64 lr))
  go_wp2_with (first | (refine st24 rfl (.tmp 10) (.tmp 37) rfl w26.heap.size rfl lr rfl LR.out (zeros 4) Z32.out rfl ?_; generalize hW : World.setRow _ _ _ = w31; have D39 := Lib.hid (show Blk w31 (w.heap.size + 1) 24 (natsV .u64 lm) from (by rw [← hW]; exact Y34.out)); have D40 := Lib.hid (show Blk w31 (w.heap.size + 1 + 1) 24 (natsV .u64 (zeros 4)) from (by rw [← hW]; exact Y35.out)); have D41 := Lib.hid (show Blk w31 G12 24 (natsV .u64 lt) from (by rw [← hW]; exact Y36.out)); have D42 := Lib.hid (show Blk w31 w26.heap.size 24 (natsV .u64 lr) from (by rw [← hW]; exact Y37.out)); have LE_D42 := (hbel30).size; have NE_D39 := Nat.ne_of_lt C27.out.lt; have NE_D40 := Nat.ne_of_lt C28.out.lt; have NE_D41 := Nat.ne_of_lt C29.out.lt; have hbel43 : Below w.heap.size w w31 := (by rw [← hW]; exact hz33.out); clear hW Z32 hz33 C27 C28 C29 Y34 Y35 Y36 Y37 hbel30; generalize w26.heap.size = G38 at *) | (refine ld24 rfl (.tmp 10) rfl G38 rfl lr D42.out LR.out ?_) | (refine st24 rfl (.tmp 6) (.tmp 39) rfl (w.heap.size + 1 + 1) rfl lr rfl LR.out (zeros 4) D40.out rfl ?_))
  refine bodyPost_ret (v := .tuple #[.agg (natsV .u64 lr).toArray, .bool true]) ?_ rfl ⟨rfl, below_setRow' hbel43 (by first | exact Nat.le_refl _ | omega) _⟩
  exact ret24x Try.results55 _ _ (w.heap.size + 1 + 1) lr _ rfl rfl (D40.out.setRow _) LR.out
theorem twice_any (r bit m : Nat) (w : World) (hr : r < m) (hb : bit ≤ 1) (hm : m < 2 ^ 256) :
    Calls Try.prog 55 #[.agg (natsV .u64 (wds 4 r)).toArray, .int .i64 (bit : Nat), .agg (natsV .u64 (wds 4 m)).toArray] w fun e w' => e = .returned (.tuple #[.agg (natsV .u64 (wds 4 (twR r bit m))).toArray, .bool (decide (m ≤ 2 * r + bit))]) ∧ Below w.heap.size w w' := by
  rcases Nat.lt_or_ge (2 * r + bit) m with h | h
  · rw [decide_eq_false (by omega)]; exact twice_lt r bit m w hr hb hm h
  · rw [decide_eq_true h]
    rcases Nat.lt_or_ge (2 * r + bit) (2 ^ 256) with h2 | h2
    · exact twice_ge r bit m w hr hb hm h2 h
    · exact twice_cy r bit m w hr hb hm h2
end Go.Proofs.Ytfffmoolkgheaaa
