/- Parts of proofs of statements, each text behind those that it stands on. No condition of its own. -/
import Derived.Test.YtdkkombpkojjaaaD15
namespace Go.Proofs.Ytdkkombpkojjaaa
set_option maxRecDepth 100000
set_option maxHeartbeats 1600000
open Go.RowKit
set_option linter.unusedVariables false
set_option linter.unusedSimpArgs false
theorem splice_z (k m : Nat) (l : List Nat) (hk : k + m = 32) (hl : l.length = m) : splice (natsV .u8 (zeros 32)) k (natsV .u8 l) = natsV .u8 (zeros k ++ l) := by
 have e : zeros 32 = zeros k ++ zeros m := by rw [← hk]; simp [zeros, List.replicate_append_replicate]
 unfold splice
 rw [e, natsV_append, natsV_append, natsV_length, hl, List.take_append_of_le_length (by rw [natsV_length]; simp [zeros]), List.take_of_length_le (by rw [natsV_length]; simp [zeros]), List.drop_of_length_le (by simp [natsV_length, zeros]), List.append_nil]
theorem cpos {w : World} {b o n m : Nat} {l : List Nat} (h : ∀ i, i < n → w.cell? ⟨b, o + i, none⟩ = some (.int .u8 (l.getD i 0 : Nat))) (hm : m ≤ n) {j : Nat} {v : Value} (hv : (natsV .u8 (l.take m))[j]? = some v) :
   w.cell? ⟨b, o + j, none⟩ = some v := by
 have hj : j < (l.take m).length := by
   have := (List.getElem?_eq_some_iff.1 hv).1
   rwa [natsV_length] at this
 have hjm : j < m := by rw [List.length_take] at hj; omega
 rw [natsV_get _ _ _ hj] at hv
 have e : (l.take m).getD j 0 = l.getD j 0 := by simp [List.getD_eq_getElem?_getD, List.getElem?_take, hjm]
 rw [e] at hv
 injection hv with hv
 rw [← hv, ← h j (by omega)]
theorem wscal_le {lx ly : List Nat} {A : Option Addr} {n c m k : Nat} {l : List Nat} (w : World) (hlx : lx.length = 4) (hly : ly.length = 4)
   (hB : BIn w A n c l)
   (hm : m = n ∧ n ≤ 32)
   (hk : k + m = 32)
   (hz : 0 < m)
   (c1 : Ans 25 #[.agg (natsV .u8 (zeros k ++ l.take m)).toArray] (.agg (natsV .u64 lx).toArray))
   (c2 : Ans 24 #[.agg (natsV .u64 lx).toArray] (.agg (natsV .u64 ly).toArray)) :
   Calls Try.prog 11 #[.slice A n c] w fun e w' => e = .returned (.agg (natsV .u64 ly).toArray) ∧ Below w.heap.size w w' := by
 have L_lx := Hd hlx
 have L_ly := Hd hly
 have Hc1 := Hd c1
 have Hc2 := Hd c2
 clear hlx hly c1 c2
 have LT := Hd (show (l.take m).length = m by rw [List.length_take, hB.1.1]; omega)
 have HL := Hd (show (natsV .u8 (zeros k ++ l.take m)).length = 32 by rw [natsV_length, List.length_append, LT.out]; simp [zeros]; omega)
 have L_B := Hd (show (zeros k ++ l.take m).length = 32 by rw [List.length_append, LT.out]; simp [zeros]; omega)
 have hc := hB.2.1
 have hcm := hB.2.2.1
 unfold maxLen at hcm
 have HBI := Hd hB
 clear hB
 obtain ⟨rfl, hn32⟩ := hm
 have i1 : (m : Int) ≤ (32 : Int) := by omega
 have i1b : ¬ ((32 : Int) < (m : Int)) := by omega
 have hmin : min (m : Int) 32 = (m : Int) := by omega
 have hmax : max (m : Int) 0 = (m : Int) := by omega
 have i2 : (m : Int) ≤ (c : Int) := by omega
 have e12 : IntKind.i64.wrap (32 - (m : Int)) = (k : Int) := by rw [IntWalk.i64_in _ (by omega)]; omega
 have e13 : (32 : Int) - (m : Int) = (k : Int) := by omega
 have i4 : (k : Int) ≤ 32 := by omega
 have i5 : ¬ (32 = k) := by omega
 have i6 : ¬ ((32 : Int) = (k : Int)) := by omega
 obtain ⟨b, o, rfl, hcell⟩ := HBI.out.1.2.2.2.resolve_left (by omega)
 have HCE := Hd hcell
 have B0_ := Hd ((Blk.new w  24 (natsV .u64 (zeros 4))).alloc (.cells (natsV .u8 (zeros 32)).toArray 49))
 have B1_ := Hd (Blk.new2 w (.cells (natsV .u64 (zeros 4)).toArray 24) 49 (natsV .u8 (zeros 32)))
 have bel_ := (((Below.refl w.heap.size w).alloc (Nat.le_refl _) (.cells (natsV .u64 (zeros 4)).toArray 24)).alloc (by simp) (.cells (natsV .u8 (zeros 32)).toArray 49))
 clear hcell
 go_enter Try.func11, Try.ntmps11
 go_wp2_with (refine wpList_copy_blk rfl (.tmp 13) (.tmp 14) 25 25 rfl 5 Try.underlying25 info5z (some ⟨w.heap.size + 1, k, none⟩) (some ⟨b, o, none⟩) (32 - k) (32 - k) m c rfl rfl (w.heap.size + 1) k (natsV .u8 (zeros 32)) 49 B1_.out (natsV .u8 (l.take m)) ?hn ?pos ?fit n1' ?_)
 case hn => rw [natsV_length, LT.out]; first | done | (show _ = min _ _; omega)
 case pos => intro _; intro j v hv; have cc := cpos HCE.out (by omega) hv; exact (bel_.cell (World.block_lt_of_cell? w _ cc)).trans cc
 case fit => rw [natsV_length, natsV_length, LT.out]; simp [zeros] <;> omega
 intro wc hb4 hg4
 rw [splice_z k m _ (by omega) LT.out] at hb4
 have R2 := Hd (B0_.out.grown hg4 (by simp))
 have V4 := Hd hb4
 have belc := belStore bel_ hg4 (by omega)
 clear hb4 hg4 B0_ B1_ bel_
 go_wp2_with (first | (refine lm' (blk_all (V4.out)) Try.underlying49 (i90 L_B.out) ?_))
 refine (Hc1.out _).mono ?_
 rintro e w1 ⟨rfl, hbw1⟩
 have C2 := Hd (R2.out.gr hbw1)
 have C3 := Hd (V4.out.gr hbw1)
 have hbel4 := belc.trans (Below.mono hbw1 belc.size)
 clear R2 V4 belc hbw1
 go_wp2_with fail
 refine (Hc2.out _).mono ?_
 rintro e w5 ⟨rfl, hbw5⟩
 have C6 := gq' C2 hbw5
 have C7 := gq' C3 hbw5
 have hbel8 := hbel4.trans (Below.mono hbw5 hbel4.size)
 clear C2 C3 hbel4 hbw5
 go_wp2_with (first | (refine stB rfl 24 (.tmp 2) (.tmp 18) rfl w.heap.size rfl (natsV .u64 ly) rfl 24 (natsV .u64 (zeros 4)) C6.out (i24 L_ly.out) (lz4 L_ly.out) n1' ?_))
 refine bodyPost_ret (v := .agg (natsV .u64 ly).toArray) ?_ rfl ⟨rfl, below_setRow' hbel8 (by first | exact Nat.le_refl _ | omega) _⟩
 exact results_cell_row Try.results11 _ _ w.heap.size 24 _ (0, 0) _ rfl (C6.out.setRow _) Try.underlying24 rfl (by simpa using (i24 L_ly.out))
theorem wscal_lez {lx ly : List Nat} {A : Option Addr} {n c m k : Nat} {l : List Nat} (w : World) (hlx : lx.length = 4) (hly : ly.length = 4)
   (hB : BIn w A n c l)
   (hm : m = n ∧ n ≤ 32)
   (hk : k + m = 32)
   (hz : m = 0)
   (c1 : Ans 25 #[.agg (natsV .u8 (zeros k ++ l.take m)).toArray] (.agg (natsV .u64 lx).toArray))
   (c2 : Ans 24 #[.agg (natsV .u64 lx).toArray] (.agg (natsV .u64 ly).toArray)) :
   Calls Try.prog 11 #[.slice A n c] w fun e w' => e = .returned (.agg (natsV .u64 ly).toArray) ∧ Below w.heap.size w w' := by
 have L_lx := Hd hlx
 have L_ly := Hd hly
 have Hc1 := Hd c1
 have Hc2 := Hd c2
 clear hlx hly c1 c2
 have LT := Hd (show (l.take m).length = m by rw [List.length_take, hB.1.1]; omega)
 have HL := Hd (show (natsV .u8 (zeros k ++ l.take m)).length = 32 by rw [natsV_length, List.length_append, LT.out]; simp [zeros]; omega)
 have L_B := Hd (show (zeros k ++ l.take m).length = 32 by rw [List.length_append, LT.out]; simp [zeros]; omega)
 have hc := hB.2.1
 have hcm := hB.2.2.1
 unfold maxLen at hcm
 have HBI := Hd hB
 clear hB
 obtain ⟨rfl, hn32⟩ := hm
 have i1 : (m : Int) ≤ (32 : Int) := by omega
 have i1b : ¬ ((32 : Int) < (m : Int)) := by omega
 have hmin : min (m : Int) 32 = (m : Int) := by omega
 have hmax : max (m : Int) 0 = (m : Int) := by omega
 have i2 : (m : Int) ≤ (c : Int) := by omega
 have hm0 : min (0 : Int) 32 = 0 := by omega
 have hx0 : max (0 : Int) 0 = 0 := by omega
 obtain rfl : m = 0 := hz
 obtain rfl : k = 32 := by omega
 have B0_ := Hd ((Blk.new w  24 (natsV .u64 (zeros 4))).alloc (.cells (natsV .u8 (zeros 32)).toArray 49))
 have B1_ := Hd (Blk.new2 w (.cells (natsV .u64 (zeros 4)).toArray 24) 49 (natsV .u8 (zeros 32)))
 have bel_ := (((Below.refl w.heap.size w).alloc (Nat.le_refl _) (.cells (natsV .u64 (zeros 4)).toArray 24)).alloc (by simp) (.cells (natsV .u8 (zeros 32)).toArray 49))
 go_enter Try.func11, Try.ntmps11
 go_wp2_with (refine wpList_copy_blk rfl (.tmp 13) (.tmp 14) 25 25 rfl 5 Try.underlying25 info5z (some ⟨w.heap.size + 1, 0, none⟩) A 0 0 0 c rfl rfl (w.heap.size + 1) 32 (natsV .u8 (zeros 32)) 49 B1_.out (natsV .u8 (l.take 0)) ?hn ?pos ?fit n1' ?_)
 case hn => simp [natsV]
 case pos => simp [natsV]
 case fit => simp [natsV, zeros]
 intro wc hb4 hg4
 rw [show splice (natsV .u8 (zeros 32)) 32 (natsV .u8 []) = natsV .u8 (zeros 32 ++ l.take 0) from splice_z 32 0 (l.take 0) rfl rfl] at hb4
 have R2 := Hd (B0_.out.grown hg4 (by simp))
 have V4 := Hd hb4
 have belc := belStore bel_ hg4 (by omega)
 clear hb4 hg4 B0_ B1_ bel_
 go_wp2_with (first | (refine lm' (blk_all (V4.out)) Try.underlying49 (i90 L_B.out) ?_))
 refine (Hc1.out _).mono ?_
 rintro e w1 ⟨rfl, hbw1⟩
 have C2 := Hd (R2.out.gr hbw1)
 have C3 := Hd (V4.out.gr hbw1)
 have hbel4 := belc.trans (Below.mono hbw1 belc.size)
 clear R2 V4 belc hbw1
 go_wp2_with fail
 refine (Hc2.out _).mono ?_
 rintro e w5 ⟨rfl, hbw5⟩
 have C6 := gq' C2 hbw5
 have C7 := gq' C3 hbw5
 have hbel8 := hbel4.trans (Below.mono hbw5 hbel4.size)
 clear C2 C3 hbel4 hbw5
 go_wp2_with (first | (refine stB rfl 24 (.tmp 2) (.tmp 18) rfl w.heap.size rfl (natsV .u64 ly) rfl 24 (natsV .u64 (zeros 4)) C6.out (i24 L_ly.out) (lz4 L_ly.out) n1' ?_))
 refine bodyPost_ret (v := .agg (natsV .u64 ly).toArray) ?_ rfl ⟨rfl, below_setRow' hbel8 (by first | exact Nat.le_refl _ | omega) _⟩
 exact results_cell_row Try.results11 _ _ w.heap.size 24 _ (0, 0) _ rfl (C6.out.setRow _) Try.underlying24 rfl (by simpa using (i24 L_ly.out))
theorem wscal_gt {lx ly : List Nat} {A : Option Addr} {n c m k : Nat} {l : List Nat} (w : World) (hlx : lx.length = 4) (hly : ly.length = 4)
   (hB : BIn w A n c l)
   (hm : m = 32 ∧ 32 < n)
   (hk : k + m = 32)
   (hz : 0 < m)
   (c1 : Ans 25 #[.agg (natsV .u8 (zeros k ++ l.take m)).toArray] (.agg (natsV .u64 lx).toArray))
   (c2 : Ans 24 #[.agg (natsV .u64 lx).toArray] (.agg (natsV .u64 ly).toArray)) :
   Calls Try.prog 11 #[.slice A n c] w fun e w' => e = .returned (.agg (natsV .u64 ly).toArray) ∧ Below w.heap.size w w' := by
 have L_lx := Hd hlx
 have L_ly := Hd hly
 have Hc1 := Hd c1
 have Hc2 := Hd c2
 clear hlx hly c1 c2
 have LT := Hd (show (l.take m).length = m by rw [List.length_take, hB.1.1]; omega)
 have HL := Hd (show (natsV .u8 (zeros k ++ l.take m)).length = 32 by rw [natsV_length, List.length_append, LT.out]; simp [zeros]; omega)
 have L_B := Hd (show (zeros k ++ l.take m).length = 32 by rw [List.length_append, LT.out]; simp [zeros]; omega)
 have hc := hB.2.1
 have hcm := hB.2.2.1
 unfold maxLen at hcm
 have HBI := Hd hB
 clear hB
 obtain ⟨rfl, hn32⟩ := hm
 have i1 : ¬ ((n : Int) ≤ (32 : Int)) := by omega
 have i1b : (32 : Int) < (n : Int) := by omega
 obtain rfl : k = 0 := by omega
 have hmin : min (n : Int) 32 = 32 := by omega
 have i3 : (32 : Int) ≤ (c : Int) := by omega
 have i2 : (n : Int) ≤ (c : Int) := by omega
 obtain ⟨b, o, rfl, hcell⟩ := HBI.out.1.2.2.2.resolve_left (by omega)
 have HCE := Hd hcell
 have B0_ := Hd ((Blk.new w  24 (natsV .u64 (zeros 4))).alloc (.cells (natsV .u8 (zeros 32)).toArray 49))
 have B1_ := Hd (Blk.new2 w (.cells (natsV .u64 (zeros 4)).toArray 24) 49 (natsV .u8 (zeros 32)))
 have bel_ := (((Below.refl w.heap.size w).alloc (Nat.le_refl _) (.cells (natsV .u64 (zeros 4)).toArray 24)).alloc (by simp) (.cells (natsV .u8 (zeros 32)).toArray 49))
 clear hcell
 go_enter Try.func11, Try.ntmps11
 go_wp2_with (refine wpList_copy_blk rfl (.tmp 13) (.tmp 14) 25 25 rfl 5 Try.underlying25 info5z (some ⟨w.heap.size + 1, 0, none⟩) (some ⟨b, o, none⟩) 32 32 32 c rfl rfl (w.heap.size + 1) 0 (natsV .u8 (zeros 32)) 49 B1_.out (natsV .u8 (l.take 32)) ?hn ?pos ?fit n1' ?_)
 case hn => rw [natsV_length, LT.out]; first | done | (show _ = min _ _; omega)
 case pos => intro _; intro j v hv; have cc := cpos HCE.out (by omega) hv; exact (bel_.cell (World.block_lt_of_cell? w _ cc)).trans cc
 case fit => rw [natsV_length, natsV_length, LT.out]; simp [zeros] <;> omega
 intro wc hb4 hg4
 rw [splice_z 0 32 _ (by omega) LT.out] at hb4
 have R2 := Hd (B0_.out.grown hg4 (by simp))
 have V4 := Hd hb4
 have belc := belStore bel_ hg4 (by omega)
 clear hb4 hg4 B0_ B1_ bel_
 go_wp2_with (first | (refine lm' (blk_all (V4.out)) Try.underlying49 (i90 L_B.out) ?_))
 refine (Hc1.out _).mono ?_
 rintro e w1 ⟨rfl, hbw1⟩
 have C2 := Hd (R2.out.gr hbw1)
 have C3 := Hd (V4.out.gr hbw1)
 have hbel4 := belc.trans (Below.mono hbw1 belc.size)
 clear R2 V4 belc hbw1
 go_wp2_with fail
 refine (Hc2.out _).mono ?_
 rintro e w5 ⟨rfl, hbw5⟩
 have C6 := gq' C2 hbw5
 have C7 := gq' C3 hbw5
 have hbel8 := hbel4.trans (Below.mono hbw5 hbel4.size)
 clear C2 C3 hbel4 hbw5
 go_wp2_with (first | (refine stB rfl 24 (.tmp 2) (.tmp 18) rfl w.heap.size rfl (natsV .u64 ly) rfl 24 (natsV .u64 (zeros 4)) C6.out (i24 L_ly.out) (lz4 L_ly.out) n1' ?_))
 refine bodyPost_ret (v := .agg (natsV .u64 ly).toArray) ?_ rfl ⟨rfl, below_setRow' hbel8 (by first | exact Nat.le_refl _ | omega) _⟩
 exact results_cell_row Try.results11 _ _ w.heap.size 24 _ (0, 0) _ rfl (C6.out.setRow _) Try.underlying24 rfl (by simpa using (i24 L_ly.out))
end Go.Proofs.Ytdkkombpkojjaaa
