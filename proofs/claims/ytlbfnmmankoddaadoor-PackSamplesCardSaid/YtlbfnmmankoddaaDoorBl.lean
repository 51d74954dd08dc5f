/- Balls: plain mathematics; the project's ball. Condition: the source's memory. -/
import Derived.Test.YtlbfnmmankoddaaDoorTh
import Derived.Test.YtlbfnmmankoddaaDoorAw
namespace Go.Proofs.YtlbfnmmankoddaaDoor
open Go.RowKit
set_option linter.unusedVariables false
set_option linter.unusedSimpArgs false
/-- one byte of a ball -/
def bStep (sg : Nat) (st : Nat × List Int) (b : Nat) : Nat × List Int :=
  if st.1 < 256 ∧ b ≤ st.1 then (st.1 + 1, (st.2.set st.1 (st.2.getD b 0)).set b (if sg / 2 ^ (st.1 - 207) % 2 = 1 then 8380416 else 1)) else st
def sgN (k : Nat) (L : List Nat) : Nat := digs 8 (stY k L) 8
def bS (k : Nat) (L : List Nat) : Nat → Nat × List Int
  | 0 => (207, zerI)
  | n + 1 => bStep (sgN k L) (bS k L n) (stY k L (8 + n))
theorem bS_succ (k : Nat) (L : List Nat) (n : Nat) : bS k L (n + 1) = bStep (sgN k L) (bS k L n) (stY k L (8 + n)) := rfl
theorem bStep_len {sg : Nat} {st : Nat × List Int} {b : Nat} (h : st.2.length = 256) (h2 : st.1 ≤ 256) : (bStep sg st b).2.length = 256 ∧ (bStep sg st b).1 ≤ 256 ∧ st.1 ≤ (bStep sg st b).1 := by
  unfold bStep; split
  · rename_i hh
    exact ⟨by simpa using h, by simp; omega, by simp⟩
  · exact ⟨h, h2, Nat.le_refl _⟩
theorem bS_len (k : Nat) (L : List Nat) : ∀ n, (bS k L n).2.length = 256 ∧ (bS k L n).1 ≤ 256 ∧ 207 ≤ (bS k L n).1
  | 0 => ⟨zerI_length, by show 207 ≤ 256; omega, Nat.le_refl _⟩
  | n + 1 => by
    obtain ⟨a, b, c⟩ := bS_len k L n
    obtain ⟨d, e, f⟩ := bStep_len (sg := sgN k L) (b := stY k L (8 + n)) a b
    exact ⟨d, e, Nat.le_trans c f⟩
theorem bS_skip (k : Nat) (L : List Nat) (q : Nat) : ∀ j, q ≤ j → (∀ x, q ≤ x → x < j → (bS k L q).1 < stY k L (8 + x)) → bS k L j = bS k L q
  | 0, h, _ => by obtain rfl : q = 0 := by omega
                  rfl
  | j + 1, h, hx => by
    by_cases e : q = j + 1
    · rw [e]
    · have ih := bS_skip k L q j (by omega) (fun x h1 h2 => hx x h1 (by omega))
      rw [bS_succ, ih]
      have := hx j (by omega) (by omega)
      unfold bStep
      rw [if_neg (by omega)]
theorem bS_done (k : Nat) (L : List Nat) (q : Nat) (h : (bS k L q).1 = 256) : ∀ j, q ≤ j → bS k L j = bS k L q
  | 0, hj => by obtain rfl : q = 0 := by omega
                rfl
  | j + 1, hj => by
    by_cases e : q = j + 1
    · rw [e]
    · rw [bS_succ, bS_done k L q h j (by omega)]
      unfold bStep
      rw [if_neg (by omega)]
def finE (st : Nat × List Int) : Nat := if st.1 = 256 then 0 else 94
def finP (st : Nat × List Int) : List Int := if st.1 = 256 then st.2 else zerI
def blE (k : Nat) (L : List Nat) : Nat := finE (bS k L 1000)
def blP (k : Nat) (L : List Nat) : List Int := finP (bS k L 1000)
theorem bl_yes {k : Nat} {L : List Nat} {n : Nat} (hn : n ≤ 1000) (h : (bS k L n).1 = 256) : blE k L = 0 ∧ blP k L = (bS k L n).2 := by
  have e := bS_done k L n h 1000 hn
  unfold blE blP
  rw [e]
  exact ⟨if_pos h, if_pos h⟩
theorem bl_no {k : Nat} {L : List Nat} {n : Nat} (hn : n ≤ 1000) (h : (bS k L n).1 < 256) (hx : ∀ x, n ≤ x → x < 1000 → (bS k L n).1 < stY k L (8 + x)) : blE k L = 94 ∧ blP k L = zerI := by
  have e := bS_skip k L n 1000 hn hx
  have hne : ¬ (bS k L n).1 = 256 := by omega
  unfold blE blP
  rw [e]
  exact ⟨if_neg hne, if_neg hne⟩
theorem bS_next {k : Nat} {L : List Nat} {n j : Nat} (hj : n ≤ j) (h : (bS k L n).1 < 256) (hx : ∀ x, n ≤ x → x < j → (bS k L n).1 < stY k L (8 + x)) (hb : stY k L (8 + j) ≤ (bS k L n).1) :
    bS k L (j + 1) = ((bS k L n).1 + 1, ((bS k L n).2.set (bS k L n).1 ((bS k L n).2.getD (stY k L (8 + j)) 0)).set (stY k L (8 + j)) (if sgN k L / 2 ^ ((bS k L n).1 - 207) % 2 = 1 then 8380416 else 1)) := by
  rw [bS_succ, bS_skip k L n j hj hx]
  unfold bStep
  rw [if_pos ⟨h, hb⟩]
theorem sg_half (s i : Nat) (h : 207 ≤ i) : s / 2 ^ (i - 207) / 2 = s / 2 ^ (i + 1 - 207) := by
  rw [half_pow, show i - 207 + 1 = i + 1 - 207 by omega]
theorem low_bit {S : Nat} (h : S < 2 ^ 64) : bits .and .u64 (S : Int) 1 = ((S % 2 : Nat) : Int) := by
  have h2 := u64_and_nat S 1 (by simpa using h) (by decide)
  rw [Nat.and_one_is_mod] at h2
  simpa using h2
theorem sgN_lt (k : Nat) (L : List Nat) : sgN k L < 2 ^ 64 := digs_lt (s := 8) (x := stY k L) (n := 8) (fun i _ => stY_lt k L i)
theorem KeepS.newcell {S : Nat → Prop} {w v : World} (h : KeepS S w v) {g : Nat} (hg : w.heap.size ≤ g) (x : Nat) (u : Value) : KeepS S w (v.setCell ⟨g, x, none⟩ u) :=
  ⟨h.1, h.2.1, h.2.2.1, by simp [World.setCell]; exact h.2.2.2.1, fun k hk hs => (heap_setCell_other v ⟨g, x, none⟩ k u (by simp; omega)).trans (h.2.2.2.2 k hk hs)⟩
theorem KeepS.newrow {S : Nat → Prop} {w v : World} (h : KeepS S w v) {g : Nat} (hg : w.heap.size ≤ g) (cs : Array Value) : KeepS S w (v.setRow g cs) :=
  ⟨h.1, h.2.1, h.2.2.1, by simp; exact h.2.2.2.1, fun k hk hs => (setRow_other v g k cs (by omega)).trans (h.2.2.2.2 k hk hs)⟩
theorem zc23 : Tryd.zeroCells25 = (iv zerI).toArray := by kernel_rfl
/-- what a call answers that draws a polynomial -/
def DrawIs (S : Nat → Prop) (er : Nat) (p : List Int) (w : World) (e : Ending) (w' : World) : Prop := e = .returned (.tuple #[.agg (iv p).toArray, .int .i64 (er : Nat)]) ∧ KeepS S w w'
theorem zz {l : List Int} (h : l.length = 256) : (iv zerI).toArray.size = (iv l).toArray.size := by rw [iv_size, iv_size, h, zerI_length]
set_option maxRecDepth 100000 in
set_option maxHeartbeats 4000000 in
theorem thrown_any (k : Nat) (L : List Nat) (g5 g9 g7 gS : Nat) (w : World) (h : Src (fun _ => False) k L 1008 g5 g9 g7 gS w 0) :
    Calls Tryd.prog 17 #[nxF g5 g9 g7] w (DrawIs (SrcS g5 g9 gS) (blE k L) (blP k L) w) := by
  have B1 := Lib.hid ((Blk.new w 25 (iv zerI)).alloc (.cells (iv zerI).toArray 25))
  have B2 := Lib.hid (Blk.new2 w (.cells (iv zerI).toArray 25) 25 (iv zerI))
  have bel0 := ((Below.refl w.heap.size w).alloc (Nat.le_refl _) (.cells (iv zerI).toArray 25)).alloc (by simp) (.cells (iv zerI).toArray 25)
  have K0 := Lib.hid (KeepS.below (S := SrcS g5 g9 gS) bel0)
  have hl5 := h.2.1.lt
  have hl9 : g9 < w.heap.size := by obtain ⟨_, _, _, _, _, m, a, gv, s, A, c, s1, s2, s3, s4, s5, s6⟩ := h; exact s5.lt
  have hlS : gS < w.heap.size := by obtain ⟨_, _, _, _, _, m, a, gv, s, A, c, s1, s2, s3, s4, s5, s6⟩ := h; exact s1.2.2.2.2.lt
  have hs0 := (h.fresh (own' := fun g => g = w.heap.size ∨ g = w.heap.size + 1) (fun g hg => by omega)).below bel0
  have HO := Lib.hid (show ∀ g, (g = w.heap.size ∨ g = w.heap.size + 1) → g < w.heap.size + 2 from fun g hg => by omega)
  have hsz0 : ((w.alloc (.cells (iv zerI).toArray 25)).alloc (.cells (iv zerI).toArray 25)).heap.size = w.heap.size + 2 := by simp
  have HSG := Lib.hid (signsOf_any _ _ HO.out k L 1008 g5 g9 g7 gS (by omega) _ (by rw [hsz0]; exact Nat.le_refl _) hs0)
  have HZ0 := Lib.hid hsz0
  clear h hs0 bel0 hsz0
  have z23 := zero23
  have HZC := Lib.hid zc23
  have LZ := Lib.hid zerI_length
  have HS00 := Lib.hid (show bS k L 0 = (207, zerI) from rfl)
  have HLEN := Lib.hid (fun n => bS_len k L n)
  have HBYa := Lib.hid (fun n hn h => @bl_yes k L n hn h)
  have HNXa := Lib.hid (fun n j hj h hx hb => @bS_next k L n j hj h hx hb)
  have HBNa := Lib.hid (fun n hn h hx => @bl_no k L n hn h hx)
  generalize zerI = Z at *
  obtain ⟨er, her⟩ : ∃ er, blE k L = er := ⟨_, rfl⟩
  obtain ⟨eP, heP⟩ : ∃ eP, blP k L = eP := ⟨_, rfl⟩
  rw [her, heP]
  rw [her] at HBYa HBNa
  rw [heP] at HBYa HBNa
  clear her heP
  generalize bS k L = B at *
  go_enter Tryd.func17, Tryd.ntmps17
  go_wp2_with fail
  clear z23
  refine HSG.out.mono ?_
  rintro e w1 ⟨rfl, hs1, hk1⟩
  have C1 := Lib.hid (B1.out.keep hk1 (by unfold SrcS; omega))
  have C2 := Lib.hid (B2.out.keep hk1 (by unfold SrcS; omega))
  have K1 := Lib.hid (K0.out.trans hk1)
  have hz1 : w.heap.size + 2 ≤ w1.heap.size := by have := hk1.2.2.2.1; rw [HZ0.out] at this; exact this
  have HS1 := Lib.hid hs1
  have hsg : digs 8 (stY k L) 8 = sgN k L := rfl
  rw [hsg]
  clear hs1 hk1 B1 B2 K0 HSG HZ0 hsg
  go_wp2_with fail
  go_loopw [5, 6] (fun v5 v6 wr => ∃ n : Nat, n ≤ 1000 ∧ v6 = .int .i64 ((B n).1 : Nat) ∧ v5 = .int .u64 (sgN k L / 2 ^ ((B n).1 - 207) : Nat) ∧ Blk wr w.heap.size 25 (iv Z) ∧ Blk wr (w.heap.size + 1) 25 (iv (B n).2) ∧ Src (fun g => g = w.heap.size ∨ g = w.heap.size + 1) k L 1008 g5 g9 g7 gS wr (8 + n) ∧ KeepS (SrcS g5 g9 gS) w wr) (fun _ v6 _ => 256 - (intOf v6).toNat)
  case atStart => exact ⟨0, by omega, by rw [HS00.out]; rfl, by rw [HS00.out]; show _ = Value.int .u64 ((sgN k L / 2 ^ (207 - 207) : Nat) : Int); simp, C1.out, by rw [HS00.out]; exact C2.out, HS1.out, K1.out⟩
  case round =>
    clear C1 C2 HS1 K1
    obtain ⟨n, hn, rfl, rfl, k1, k2, hs, hk⟩ := hrel
    have J1 := Lib.hid k1
    have J2 := Lib.hid k2
    have HS := Lib.hid hs
    have HK := Lib.hid hk
    have hzw := hk.2.2.2.1
    obtain ⟨hln, hl1, hl2⟩ := HLEN.out n
    have HBY := Lib.hid (fun h => HBYa.out n hn h)
    have HBN := Lib.hid (fun h hx => HBNa.out n hn h hx)
    have HNX := Lib.hid (fun j hj h hx hb => HNXa.out n j hj h hx hb)
    obtain ⟨i, hi⟩ : ∃ i, (B n).1 = i := ⟨_, rfl⟩
    obtain ⟨p, hp⟩ : ∃ p, (B n).2 = p := ⟨_, rfl⟩
    rw [hi] at hl1 hl2 HBY HBN HNX ⊢
    rw [hp] at J2 hln HBY HNX
    have LP := Lib.hid hln
    clear k1 k2 hs hk hi hp hln
    by_cases h5 : i < 256
    · have i1 : (i : Int) < 256 := by omega
      have HU := Lib.hid (upTo_any _ _ HO.out k L 1008 g5 g9 g7 gS i (8 + n) h5 (by omega) wr (by have := J2.out.lt; omega) HS.out)
      have HSH := Lib.hid (sg_half (sgN k L) i hl2)
      go_wp2_with fail
      refine HU.out.mono ?_
      intro e w2 hup
      obtain ⟨hk2, hor⟩ := hup
      rcases hor with ⟨j, hj1, hj2, hj3, hj4, rfl, hs2⟩ | ⟨hno, rfl⟩
      · have D1 := Lib.hid (J1.out.keep hk2 (by unfold SrcS; omega))
        have D2 := Lib.hid (J2.out.keep hk2 (by unfold SrcS; omega))
        have HK2 := Lib.hid (HK.out.trans hk2)
        have HS2 := Lib.hid hs2
        have HX := Lib.hid (HNX.out (j - 8) (by omega) h5 (fun x h1 h2 => hj3 (8 + x) (by omega) (by omega)) (by rw [show 8 + (j - 8) = j by omega]; exact hj4))
        rw [show 8 + (j - 8) = j by omega, show j - 8 + 1 = j - 7 by omega] at HX
        have hj7 : 8 + (j - 7) = j + 1 := by omega
        have hjn : j - 7 ≤ 1000 := by omega
        rw [← hj7] at HS2
        clear hj7
        generalize j - 7 = n2 at *
        generalize stY k L j = y at *
        have hy2 : y < 256 := by omega
        have hS := Nat.lt_of_le_of_lt (Nat.div_le_self (sgN k L) (2 ^ (i - 207))) (sgN_lt k L)
        have hlow := low_bit hS
        clear hS
        generalize sgN k L / 2 ^ (i - 207) = S at *
        have c1 := D2.out.iv y (by rw [LP.out]; exact hy2)
        have c2 := D2.out.iv i (by rw [LP.out]; exact h5)
        have f2 := D2.out.free i
        have E2 := D2.out.ivSet i (p.getD y 0)
        have HE2 := Lib.hid E2
        have c3 := E2.iv y (by rw [List.length_set, LP.out]; exact hy2)
        have f3 := E2.free y
        have HF2 := Lib.hid (E2.ivSet y 1)
        have c4 := HF2.out.iv y (by rw [List.length_set, List.length_set, LP.out]; exact hy2)
        have f4 := HF2.out.free y
        have HG2 := Lib.hid (HF2.out.ivSet y 8380416)
        rw [List.set_set] at HG2
        generalize p.getD y 0 = z at *
        clear hk2 hs2 hj3 HU
        by_cases hb : S % 2 = 1
        · have hbt : (((S % 2 : Nat) : Int) == 1) = true := by rw [show S % 2 = 1 by omega]; rfl
          rw [if_pos (by omega)] at HX
          have D1b := ((D1.out.other ⟨w.heap.size + 1, i, none⟩ (.int .i32 z) (by simp)).other ⟨w.heap.size + 1, y, none⟩ (.int .i32 1) (by simp)).other ⟨w.heap.size + 1, y, none⟩ (.int .i32 8380416) (by simp)
          have KSb := ((HK2.out.newcell (g := w.heap.size + 1) (by omega) i (.int .i32 z)).newcell (g := w.heap.size + 1) (by omega) y (.int .i32 1)).newcell (g := w.heap.size + 1) (by omega) y (.int .i32 8380416)
          have h00 : ¬ (fun g => g = w.heap.size ∨ g = w.heap.size + 1) 0 := by omega
          have SRb := ((HS2.out.keep (KeepS.cell w2 (w.heap.size + 1) i (.int .i32 z) (.inr rfl)) h00).keep (KeepS.cell (w2.setCell ⟨w.heap.size + 1, i, none⟩ (.int .i32 z)) (w.heap.size + 1) y (.int .i32 1) (.inr rfl)) h00).keep (KeepS.cell ((w2.setCell ⟨w.heap.size + 1, i, none⟩ (.int .i32 z)).setCell ⟨w.heap.size + 1, y, none⟩ (.int .i32 1)) (w.heap.size + 1) y (.int .i32 8380416) (.inr rfl)) h00
          have FIN := Lib.hid (And.intro D1b (And.intro KSb SRb))
          clear D1b KSb SRb
          go_wp2_with fail
          go_roundw
          case rel => exact ⟨n2, hjn, by rw [HX.out]; go_num, by rw [HX.out, ← HSH.out]; go_num, FIN.out.1, by rw [HX.out]; exact HG2.out, FIN.out.2.2, FIN.out.2.1⟩
          case measure => simp [intOf]; omega
        · have hbt : (((S % 2 : Nat) : Int) == 1) = false := by rw [show S % 2 = 0 by omega]; rfl
          rw [if_neg (by omega)] at HX
          have D1b := ((D1.out.other ⟨w.heap.size + 1, i, none⟩ (.int .i32 z) (by simp)).other ⟨w.heap.size + 1, y, none⟩ (.int .i32 1) (by simp))
          have KSb := ((HK2.out.newcell (g := w.heap.size + 1) (by omega) i (.int .i32 z)).newcell (g := w.heap.size + 1) (by omega) y (.int .i32 1))
          have h00 : ¬ (fun g => g = w.heap.size ∨ g = w.heap.size + 1) 0 := by omega
          have SRb := ((HS2.out.keep (KeepS.cell w2 (w.heap.size + 1) i (.int .i32 z) (.inr rfl)) h00).keep (KeepS.cell (w2.setCell ⟨w.heap.size + 1, i, none⟩ (.int .i32 z)) (w.heap.size + 1) y (.int .i32 1) (.inr rfl)) h00)
          have FIN := Lib.hid (And.intro D1b (And.intro KSb SRb))
          clear D1b KSb SRb
          go_wp2_with fail
          go_roundw
          case rel => exact ⟨n2, hjn, by rw [HX.out]; go_num, by rw [HX.out, ← HSH.out]; go_num, FIN.out.1, by rw [HX.out]; exact HF2.out, FIN.out.2.2, FIN.out.2.1⟩
          case measure => simp [intOf]; omega
      · have hnn := HBN.out h5 (fun x h1 h2 => hno (8 + x) (by omega) (by omega))
        obtain ⟨rfl, rfl⟩ := hnn
        have D1 := Lib.hid (J1.out.keep hk2 (by unfold SrcS; omega))
        have HK2 := Lib.hid (HK.out.trans hk2)
        clear hk2 hno
        go_wp2_with (first | (refine wpList_store_row rfl 25 (.tmp 2) (.tmp 23) rfl w.heap.size (iv eP).toArray rfl (congrArg Value.agg HZC.out) 25 (iv eP).toArray D1.out (j23 LZ.out) rfl (iv_all _) ?_))
        have j2 := D1.out.setRow (iv eP)
        refine bodyPost_ret (v := .tuple #[.agg (iv eP).toArray, .int .i64 94]) ?_ rfl ⟨rfl, HK2.out.newrow (Nat.le_refl _) _⟩
        exact results_two Tryd.results17 _ _ w.heap.size 25 _ (0, 0) _ _ rfl rfl j2 Tryd.underlying25 rfl (j23 LZ.out)
    · have i1 : ¬ ((i : Int) < 256) := by omega
      have hnn := HBY.out (by omega)
      clear h5 hl1 hl2 HBN HNX HBY
      obtain ⟨rfl, rfl⟩ := hnn
      go_wp2_with (first | (refine wpList_load_row rfl 25 (.tmp 4) rfl (w.heap.size + 1) rfl 25 (iv eP).toArray (0, 0) _ J2.out Tryd.underlying25 rfl (j23 LP.out) ?_) | (refine wpList_store_row rfl 25 (.tmp 2) (.tmp 38) rfl w.heap.size (iv eP).toArray rfl rfl 25 (iv Z).toArray J1.out (j23 LP.out) (by rw [iv_size, iv_size, LZ.out, LP.out]) (iv_all _) ?_))
      have j2 := J1.out.setRow (iv eP)
      refine bodyPost_ret (v := .tuple #[.agg (iv eP).toArray, .int .i64 0]) ?_ rfl ⟨rfl, HK.out.newrow (Nat.le_refl _) _⟩
      exact results_two Tryd.results17 _ _ w.heap.size 25 _ (0, 0) _ _ rfl rfl j2 Tryd.underlying25 rfl (j23 LP.out)
end Go.Proofs.YtlbfnmmankoddaaDoor
