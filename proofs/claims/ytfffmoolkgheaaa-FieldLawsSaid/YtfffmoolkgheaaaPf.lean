/- Which prime is meant, and whether numbers are forms modulo it. No condition. -/
import Derived.Test.YtfffmoolkgheaaaTi
import Derived.Test.YtfffmoolkgheaaaRb
namespace Go.Proofs.Ytfffmoolkgheaaa
open Go.RowKit
set_option linter.unusedVariables false
set_option linter.unusedSimpArgs false
def lP : List Nat := [18446744073709551615, 4294967295, 0, 18446744069414584321]
def lN : List Nat := [17562291160714782033, 13611842547513532036, 18446744073709551615, 18446744069414584320]
theorem wds_P : wds 4 mP = lP := by decide +kernel
theorem wds_N : wds 4 mN = lN := by decide +kernel
theorem lit_P : (.agg #[.int .u64 18446744073709551615, .int .u64 4294967295, .int .u64 0, .int .u64 18446744069414584321, .int .u32 1] : Value) = .agg (primL lP 1).toArray := by simp [primL, lP, natsV]
theorem lit_N : (.agg #[.int .u64 17562291160714782033, .int .u64 13611842547513532036, .int .u64 18446744073709551615, .int .u64 18446744069414584320, .int .u32 3993025615] : Value) = .agg (primL lN fN).toArray := by simp [primL, lN, natsV, fN]
theorem lit_0 : (.agg #[.int .u64 0, .int .u64 0, .int .u64 0, .int .u64 0, .int .u32 0] : Value) = .agg (primL (zeros 4) 0).toArray := by simp [primL, zeros, natsV]
theorem primL_ok (l : List Nat) (f : Nat) (h : l.length = 4) : (primL l f).length = 5 ∧ (primL l f).toArray.all (·.oneCell') = true := ⟨primL_len l f h, primL_one l f⟩
/-- which of the primes which says -/
inductive Wh : Int → Nat → Nat → Nat → Prop
  | p : Wh 1 mP 1 vP
  | n : Wh 2 mN fN vN
theorem Wh.fld {k : Int} {m f v : Nat} (h : Wh k m f v) : Fld m f v := by cases h; exact fld_P; exact fld_N
theorem Wh.dec (k : Int) : (∃ m f v, Wh k m f v) ∨ (k ≠ 1 ∧ k ≠ 2) := by
  by_cases h1 : k = 1
  · subst h1; exact Or.inl ⟨_, _, _, .p⟩
  · by_cases h2 : k = 2
    · subst h2; exact Or.inl ⟨_, _, _, .n⟩
    · exact Or.inr ⟨h1, h2⟩
set_option maxRecDepth 100000 in
set_option maxHeartbeats 400000 in
theorem primeOf_any (k : Int) (m f v : Nat) (w : World) (h : Wh k m f v) :
    Calls Try.prog 99 #[.int .i64 k] w fun e w' => e = .returned (.tuple #[.agg (primL (wds 4 m) f).toArray, .bool true]) ∧ Below w.heap.size w w' := by
  have B := Lib.hid (Blk.new w 83 (primL (zeros 4) 0))
  have hbel := fun cs => below_setRow' ((Below.refl w.heap.size w).alloc (Nat.le_refl _) (.cells (primL (zeros 4) 0).toArray 83)) (Nat.le_refl _) cs
  cases h with
  | p =>
    rw [wds_P]
    have j := B.out.setRow (primL lP 1)
    have hb := hbel (primL lP 1).toArray
    clear hbel
    go_enter Try.func99, Try.ntmps99
    go_wp2_with (refine st83 rfl (.tmp 2) (.tmp 8) rfl w.heap.size rfl (primL lP 1) lit_P (primL_ok lP 1 rfl) (primL (zeros 4) 0) B.out rfl ?_)
    refine bodyPost_ret (v := .tuple #[.agg (primL lP 1).toArray, .bool true]) ?_ rfl ⟨rfl, hb⟩
    exact ret83x Try.results99 _ _ w.heap.size _ _ rfl rfl j rfl
  | n =>
    rw [wds_N]
    have j := B.out.setRow (primL lN fN)
    have hb := hbel (primL lN fN).toArray
    clear hbel
    go_enter Try.func99, Try.ntmps99
    go_wp2_with (refine st83 rfl (.tmp 2) (.tmp 12) rfl w.heap.size rfl (primL lN fN) lit_N (primL_ok lN fN rfl) (primL (zeros 4) 0) B.out rfl ?_)
    refine bodyPost_ret (v := .tuple #[.agg (primL lN fN).toArray, .bool true]) ?_ rfl ⟨rfl, hb⟩
    exact ret83x Try.results99 _ _ w.heap.size _ _ rfl rfl j rfl
set_option maxRecDepth 100000 in
set_option maxHeartbeats 400000 in
theorem primeOf_no (k : Int) (w : World) (h : k ≠ 1 ∧ k ≠ 2) :
    Calls Try.prog 99 #[.int .i64 k] w fun e w' => e = .returned (.tuple #[.agg (primL (zeros 4) 0).toArray, .bool false]) ∧ Below w.heap.size w w' := by
  have B := Lib.hid (Blk.new w 83 (primL (zeros 4) 0))
  have hb := below_setRow' ((Below.refl w.heap.size w).alloc (Nat.le_refl _) (.cells (primL (zeros 4) 0).toArray 83)) (Nat.le_refl _) (primL (zeros 4) 0).toArray
  have j := B.out.setRow (primL (zeros 4) 0)
  obtain ⟨h1, h2⟩ := h
  go_enter Try.func99, Try.ntmps99
  go_wp2_with (refine st83 rfl (.tmp 2) (.tmp 13) rfl w.heap.size rfl (primL (zeros 4) 0) lit_0 (primL_ok (zeros 4) 0 rfl) (primL (zeros 4) 0) B.out rfl ?_)
  refine bodyPost_ret (v := .tuple #[.agg (primL (zeros 4) 0).toArray, .bool false]) ?_ rfl ⟨rfl, hb⟩
  exact ret83x Try.results99 _ _ w.heap.size _ _ rfl rfl j rfl
set_option maxRecDepth 100000 in
set_option maxHeartbeats 400000 in
theorem primeFor_no (k : Int) (A : Option Addr) (n c : Nat) (w : World) (h : k ≠ 1 ∧ k ≠ 2) :
    Calls Try.prog 57 #[.int .i64 k, .slice A n c] w fun e w' => e = .returned (.tuple #[.agg (primL (zeros 4) 0).toArray, .int .i64 51]) ∧ Below w.heap.size w w' := by
  have HP := Lib.hid (fun w => primeOf_no k w h)
  have B1 := Lib.hid (Blk.new w 83 (primL (zeros 4) 0))
  have BEL := Lib.hid ((Below.refl w.heap.size w).alloc (Nat.le_refl _) (.cells (primL (zeros 4) 0).toArray 83))
  go_enter Try.func57, Try.ntmps57
  go_wp2_with fail
  refine (HP.out _).mono ?_
  rintro e w1 ⟨rfl, hbw1⟩
  have C2 := Lib.hid (B1.out.below' hbw1)
  have hbel3 := BEL.out.trans (hbw1.mono BEL.out.size)
  clear B1 hbw1
  have Z5 := Lib.hid (Blk.new w1 83 ((primL (zeros 4) 0)))
  have hz6 := Lib.hid (below_setRow' (hbel3.alloc hbel3.size (.cells ((primL (zeros 4) 0)).toArray 83)) hbel3.size ((primL (zeros 4) 0)).toArray)
  have Y7 := Lib.hid ((C2.out.alloc (.cells ((primL (zeros 4) 0)).toArray 83)).row ((primL (zeros 4) 0)).toArray (Nat.ne_of_lt C2.out.lt))
  have Y8 := Lib.hid (Z5.out.setRow ((primL (zeros 4) 0)))
  go_wp2_with (first | (refine st83 rfl (.tmp 6) (.tmp 13) rfl w1.heap.size rfl (primL (zeros 4) 0) rfl (primL_ok (zeros 4) 0 rfl) (primL (zeros 4) 0) Z5.out rfl ?_; generalize hW : World.setRow _ _ _ = w4; have D10 := Lib.hid (show Blk w4 w.heap.size 83 ((primL (zeros 4) 0)) from (by rw [← hW]; exact Y7.out)); have D11 := Lib.hid (show Blk w4 w1.heap.size 83 ((primL (zeros 4) 0)) from (by rw [← hW]; exact Y8.out)); have LE_D11 := (hbel3).size; have NE_D10 := Nat.ne_of_lt C2.out.lt; have hbel12 : Below w.heap.size w w4 := (by rw [← hW]; exact hz6.out); clear hW Z5 hz6 C2 Y7 Y8 hbel3; generalize w1.heap.size = G9 at *) | (refine st83 rfl (.tmp 4) (.tmp 17) rfl w.heap.size rfl (primL (zeros 4) 0) lit_0 (primL_ok (zeros 4) 0 rfl) (primL (zeros 4) 0) D10.out rfl ?_))
  refine bodyPost_ret (v := .tuple #[.agg (primL (zeros 4) 0).toArray, .int .i64 51]) ?_ rfl ⟨rfl, below_setRow' hbel12 (Nat.le_refl _) _⟩
  exact ret83x Try.results57 _ _ w.heap.size _ _ rfl rfl (D10.out.setRow _) rfl
/-- the numbers that a call hands over -/
def Forms (w : World) (A : Option Addr) (xs : List Nat) : Prop := xs.length ≤ 4 ∧ (xs = [] ∨ ∃ g, A = some ⟨g, 0, none⟩ ∧ g < w.heap.size ∧ ∀ i, i < xs.length → w.rangeAt g (4 * i) (natsV .u64 (wds 4 (xs.getD i 0))))
theorem Forms.below {w w' : World} {A : Option Addr} {xs : List Nat} (h : Forms w A xs) (hb : Below w.heap.size w w') : Forms w' A xs := by
  refine ⟨h.1, h.2.imp id ?_⟩
  rintro ⟨g, h1, h2, h3⟩
  exact ⟨g, h1, Nat.lt_of_lt_of_le h2 hb.size, fun i hi j v hv => (hb.cell (p := ⟨g, 4 * i + j, none⟩) h2).trans (h3 i hi j v hv)⟩
/-- what the project says of numbers that ought to be forms -/
def rangeE (m : Nat) (xs : List Nat) : Int := if ∀ x ∈ xs, x < m then 0 else 52
set_option maxRecDepth 100000 in
set_option maxHeartbeats 800000 in
theorem primeFor_any (k : Int) (m f v : Nat) (A : Option Addr) (xs : List Nat) (c : Nat) (w : World) (h : Wh k m f v) (hxs : Forms w A xs) (hx : ∀ x ∈ xs, x < 2 ^ 256) :
    Calls Try.prog 57 #[.int .i64 k, .slice A xs.length c] w fun e w' => e = .returned (.tuple #[.agg (if ∀ x ∈ xs, x < m then primL (wds 4 m) f else primL (zeros 4) 0).toArray, .int .i64 (rangeE m xs)]) ∧ Below w.heap.size w w' := by
  have HP := Lib.hid (fun w => primeOf_any k m f v w h)
  have hm := h.fld.lt
  have HC := Lib.hid (fun x (hx : x < 2 ^ 256) w => Cmp_any x m w hx hm)
  have LM := Lib.hid (wds_len 4 m)
  have LP := Lib.hid (primL_ok (wds 4 m) f (wds_len 4 m))
  have HX := Lib.hid hx
  have HF := Lib.hid hxs
  have hlen := hxs.1
  obtain ⟨N, hN⟩ : ∃ N, N = xs.length := ⟨_, rfl⟩
  have HN := Lib.hid hN
  rw [← hN] at hlen ⊢
  generalize wds 4 m = lm at *
  obtain ⟨rv, hrv⟩ : ∃ r, r = (if ∀ x ∈ xs, x < m then primL lm f else primL (zeros 4) 0) := ⟨_, rfl⟩
  obtain ⟨re, hre⟩ : ∃ r, r = rangeE m xs := ⟨_, rfl⟩
  rw [← hrv, ← hre]
  have HRV := Lib.hid hrv
  have HRE := Lib.hid hre
  clear hrv hre
  clear h hxs hx hN
  have B1 := Lib.hid (Blk.new w 83 (primL (zeros 4) 0))
  have BEL := Lib.hid ((Below.refl w.heap.size w).alloc (Nat.le_refl _) (.cells (primL (zeros 4) 0).toArray 83))
  go_enter Try.func57, Try.ntmps57
  go_wp2_with fail
  refine (HP.out _).mono ?_
  rintro e w1 ⟨rfl, hbw1⟩
  have C2 := Lib.hid (B1.out.below' hbw1)
  have hbel3 := BEL.out.trans (hbw1.mono BEL.out.size)
  clear B1 hbw1
  have HF2 := Lib.hid (HF.out.below hbel3)
  have Z5 := Lib.hid (Blk.new w1 83 ((primL (zeros 4) 0)))
  have hz6 := Lib.hid (below_setRow' (hbel3.alloc hbel3.size (.cells ((primL (zeros 4) 0)).toArray 83)) hbel3.size ((primL lm f)).toArray)
  have Y7 := Lib.hid ((C2.out.alloc (.cells ((primL (zeros 4) 0)).toArray 83)).row ((primL lm f)).toArray (Nat.ne_of_lt C2.out.lt))
  have Y8 := Lib.hid (Z5.out.setRow ((primL lm f)))
  go_wp2_with (first | (refine st83 rfl (.tmp 6) (.tmp 13) rfl w1.heap.size rfl (primL lm f) rfl LP.out (primL (zeros 4) 0) Z5.out rfl ?_; generalize hW : World.setRow _ _ _ = w4; have D10 := Lib.hid (show Blk w4 w.heap.size 83 ((primL (zeros 4) 0)) from (by rw [← hW]; exact Y7.out)); have D11 := Lib.hid (show Blk w4 w1.heap.size 83 ((primL lm f)) from (by rw [← hW]; exact Y8.out)); have LE_D11 := (hbel3).size; have NE_D10 := Nat.ne_of_lt C2.out.lt; have hbel12 : Below w.heap.size w w4 := (by rw [← hW]; exact hz6.out); have HF3 := Lib.hid (HF.out.below hbel12); clear hW HF2 Z5 hz6 C2 Y7 Y8 hbel3; generalize w1.heap.size = G9 at *))
  go_loopw [20] (fun i wr => ∃ t : Nat, t ≤ N ∧ i = .int .i64 t ∧ (∀ j, j < t → xs.getD j 0 < m) ∧ Blk wr w.heap.size 83 (primL (zeros 4) 0) ∧ Blk wr G9 83 (primL lm f) ∧ Below w.heap.size w wr) (fun i _ => N - (intOf i).toNat)
  case atStart => exact ⟨0, by omega, rfl, fun j hj => absurd hj (Nat.not_lt_zero j), D10.out, D11.out, hbel12⟩
  case round =>
    clear D10 D11 hbel12 HF3
    obtain ⟨t, ht, rfl, hall, k1, k2, hbel⟩ := hrel
    have K1 := Lib.hid k1
    have K2 := Lib.hid k2
    have HA := Lib.hid hall
    clear k1 k2 hall
    by_cases hs : t < N
    · as_aux_lemma =>
      have hti : (t : Int) < (N : Int) := by omega
      have hmem : xs.getD t 0 ∈ xs := by
        rw [List.getD_eq_getElem?_getD, List.getElem?_eq_getElem (show t < xs.length by rw [← HN.out]; exact hs)]
        exact List.getElem_mem _
      have hx := HX.out _ hmem
      obtain ⟨_, hcase⟩ := HF.out.below hbel
      obtain ⟨g, rfl, hg1, hg2⟩ := hcase.resolve_left (fun h0 => by rw [h0] at HN; have := HN.out; simp at this; omega)
      have HR := Lib.hid (hg2 t (by rw [← HN.out]; exact hs))
      have LX := Lib.hid (wds_len 4 (xs.getD t 0))
      have HCx := Lib.hid (fun w => HC.out _ hx w)
      have HBAD := Lib.hid (fun (h : ¬ xs.getD t 0 < m) => show (¬ ∀ x ∈ xs, x < m) from fun h2 => h (h2 _ hmem))
      have HNX := Lib.hid (fun (h : xs.getD t 0 < m) => show (∀ j, j < t + 1 → xs.getD j 0 < m) from fun j hj => by
        rcases Nat.lt_or_ge j t with h1 | h1
        · exact HA.out j h1
        · obtain rfl : j = t := by omega
          exact h)
      clear HA hmem hx hg2 hcase HX HC
      generalize xs.getD t 0 = x at *
      generalize wds 4 x = lx at *
      have i4 : 4 * (t : Int) = ((4 * t : Nat) : Int) := by omega
      have Z52 := Lib.hid (Blk.new wr 24 (natsV .u64 (zeros 4)))
      have hz53 := Lib.hid (below_setRow' (hbel.alloc hbel.size (.cells (natsV .u64 (zeros 4)).toArray 24)) hbel.size (natsV .u64 lx).toArray)
      have Y54 := Lib.hid ((K1.out.alloc (.cells (natsV .u64 (zeros 4)).toArray 24)).row (natsV .u64 lx).toArray (Nat.ne_of_lt K1.out.lt))
      have Y55 := Lib.hid ((K2.out.alloc (.cells (natsV .u64 (zeros 4)).toArray 24)).row (natsV .u64 lx).toArray (Nat.ne_of_lt K2.out.lt))
      have Y56 := Lib.hid (Z52.out.setRow (natsV .u64 lx))
      go_wp2_with (first | (refine wpList_load_mid rfl 24 (.tmp 22) rfl g (4 * t) (by first | rfl | (simp [Act.eval]; done) | (simp [Act.eval]; omega)) (natsV .u64 lx) _ HR.out Try.underlying24 rfl (by rw [info24, natsV_length, LX.out]) ?_) | (refine st24 rfl (.tmp 9) (.tmp 23) rfl wr.heap.size rfl lx rfl LX.out (zeros 4) Z52.out rfl ?_; generalize hW : World.setRow _ _ _ = w51; have D58 := Lib.hid (show Blk w51 w.heap.size 83 ((primL (zeros 4) 0)) from (by rw [← hW]; exact Y54.out)); have D59 := Lib.hid (show Blk w51 G9 83 ((primL lm f)) from (by rw [← hW]; exact Y55.out)); have D60 := Lib.hid (show Blk w51 wr.heap.size 24 (natsV .u64 lx) from (by rw [← hW]; exact Y56.out)); have LE_D60 := (hbel).size; have NE_D59 := Nat.ne_of_lt K2.out.lt; have hbel61 : Below w.heap.size w w51 := (by rw [← hW]; exact hz53.out); clear hW Z52 hz53 K1 K2 Y54 Y55 Y56 hbel; generalize wr.heap.size = G57 at *) | (refine ld24 rfl (.tmp 9) rfl G57 rfl lx D60.out LX.out ?_) | (refine ldm rfl (.tmp 25) rfl G9 rfl lm _ D59.out LM.out ?_))
      refine (HCx.out _).mono ?_
      rintro e w62 ⟨rfl, hbw62⟩
      have C63 := Lib.hid (D58.out.below' hbw62)
      have C64 := Lib.hid (D59.out.below' hbw62)
      have C65 := Lib.hid (D60.out.below' hbw62)
      have hbel66 := hbel61.trans (hbw62.mono hbel61.size)
      clear D58 D59 D60 hbw62 hbel61
      by_cases hlt : x < m
      · have hcz : ¬ (0 : Int) ≤ cmpZ x m := by rw [cmpZ_lt hlt]; decide
        clear HBAD HCx
        generalize cmpZ x m = cz at *
        go_wp2_with fail
        go_roundw
        case rel => exact ⟨t + 1, by omega, by go_num, HNX.out hlt, C63.out, C64.out, hbel66⟩
        case measure => simp [intOf] <;> omega
      · have hcz : (0 : Int) ≤ cmpZ x m := by
          rcases Nat.lt_or_ge m x with h3 | h3
          · rw [cmpZ_gt h3]; decide
          · obtain rfl : x = m := by omega
            rw [cmpZ_self]; decide
        have hno := HBAD.out hlt
        have er := HRV.out.trans (if_neg hno)
        have ee : re = 52 := HRE.out.trans (if_neg hno)
        clear HRV HRE HCx HNX hno
        subst er ee
        generalize cmpZ x m = cz at *
        go_wp2_with (refine st83 rfl (.tmp 4) (.tmp 29) rfl w.heap.size rfl (primL (zeros 4) 0) lit_0 (primL_ok (zeros 4) 0 rfl) (primL (zeros 4) 0) C63.out rfl ?_)
        refine bodyPost_ret (v := .tuple #[.agg (primL (zeros 4) 0).toArray, .int .i64 52]) ?_ rfl ⟨rfl, below_setRow' hbel66 (Nat.le_refl _) _⟩
        exact ret83x Try.results57 _ _ w.heap.size _ _ rfl rfl (C63.out.setRow _) rfl
    · obtain rfl : t = N := by omega
      have hti : ¬ ((t : Int) < (t : Int)) := by omega
      have hyes : ∀ x ∈ xs, x < m := by
        intro x hx
        obtain ⟨j, hj, rfl⟩ := List.mem_iff_getElem.1 hx
        have := HA.out j (by rw [HN.out]; exact hj)
        rw [List.getD_eq_getElem?_getD, List.getElem?_eq_getElem hj] at this
        exact this
      have er := HRV.out.trans (if_pos hyes)
      have ee : re = 0 := HRE.out.trans (if_pos hyes)
      clear HRV HRE
      subst er ee
      go_wp2_with (first | (refine ld83 rfl (.tmp 6) rfl G9 rfl (primL lm f) K2.out LP.out.1 ?_) | (refine st83 rfl (.tmp 4) (.tmp 31) rfl w.heap.size rfl (primL lm f) rfl LP.out (primL (zeros 4) 0) K1.out rfl ?_))
      refine bodyPost_ret (v := .tuple #[.agg (primL lm f).toArray, .int .i64 0]) ?_ rfl ⟨rfl, below_setRow' hbel (Nat.le_refl _) _⟩
      exact ret83x Try.results57 _ _ w.heap.size _ _ rfl rfl (K1.out.setRow _) LP.out.1
end Go.Proofs.Ytfffmoolkgheaaa
