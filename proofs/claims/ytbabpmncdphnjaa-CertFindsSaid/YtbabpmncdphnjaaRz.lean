/- The document's Decode. No condition. -/
import Derived.Test.YtbabpmncdphnjaaRr
import Derived.Test.YtbabpmncdphnjaaWy
namespace Go.Proofs.Ytbabpmncdphnjaa
open Go.RowKit
set_option linter.unusedVariables false
set_option maxRecDepth 100000
set_option linter.unusedSimpArgs false

theorem refRead_any (l : List Nat) (a : Option Addr) (n c : Nat) (hn : n ≤ 65536) : ∀ (F g : Nat), g ≤ F → ∀ (d : Nat) (w : World) (p en : Nat), BIn w a n c l → en ≤ n → (en - p) + 1 ≤ g → p ≤ 1048576 → d ≤ 65536 →
    Calls Try.prog 46 #[.slice a n c, .int .i64 (p : Nat), .int .i64 (en : Nat), .int .i64 (d : Nat)] w (RrIs (rd g d ((l.take en).drop p)) en w) := by
  intro F
  induction F with
  | zero => intro g hg d w p en _ _ h; omega
  | succ F ih =>
    intro g hg d w p en h1 h2 h3 h4 h5
    rcases Nat.lt_or_ge g (F + 1) with h | h
    · exact ih g (by omega) d w p en h1 h2 h3 h4 h5
    · obtain rfl : g = F + 1 := by omega
      exact refRead_step F l a n c hn ih d w p en h1 h2 (by omega) h4 h5
/-- what the document's Decode answers -/
def RDec (R : Except Nat (Nat × List Nat × Tr)) (w : World) (e : Ending) (w' : World) : Prop :=
  Below w.heap.size w w' ∧ match R with
  | .error c => e = .returned (.tuple #[.agg #[.int .u8 0, .slice none 0 0, .slice none 0 0], .int .i64 (c : Nat)])
  | .ok (t, b, k) => ∃ a1 c1 a2 c2, e = .returned (.tuple #[itV t a1 b.length c1 a2 k.len c2, .int .i64 0]) ∧ ItIn w' t a1 c1 a2 c2 b k
theorem RDec.err {R : Except Nat (Nat × List Nat × Tr)} {w w' : World} {c : Nat} (h : R = .error c) (hb : Below w.heap.size w w') : RDec R w (.returned (.tuple #[.agg #[.int .u8 0, .slice none 0 0, .slice none 0 0], .int .i64 (c : Nat)])) w' := by subst h; exact ⟨hb, rfl⟩
theorem RDec.good {R : Except Nat (Nat × List Nat × Tr)} {w w' : World} {t : Nat} {b : List Nat} {k : Tr} (h : R = .ok (t, b, k)) (hb : Below w.heap.size w w') {a1 a2 : Option Addr} {c1 c2 : Nat} (h1 : ItIn w' t a1 c1 a2 c2 b k) :
    RDec R w (.returned (.tuple #[.agg #[.int .u8 (t : Nat), .slice a1 b.length c1, .slice a2 k.len c2], .int .i64 0])) w' := by subst h; exact ⟨hb, a1, c1, a2, c2, rfl, h1⟩

set_option maxHeartbeats 4000000 in
theorem refDecode_any (l : List Nat) (w : World) (a : Option Addr) (n c : Nat) (hin : BIn w a n c l) : Calls Try.prog 9 #[.slice a n c] w (RDec (decE l) w) := by
  have hn : l.length = n := hin.1.1
  have D0 := Lib.hid (Blk.new w 25 [.int .u8 0, .slice none 0 0, .slice none 0 0])
  have h0 := (Below.refl _ w).alloc (Nat.le_refl _) (.cells #[.int .u8 0, .slice none 0 0, .slice none 0 0] 25)
  have H0 := Lib.hid h0
  by_cases hlong : 65536 < n
  · have hli : (65536 : Int) < (n : Int) := by omega
    have hX := Lib.hid (dec_long (l := l) (by omega))
    clear hin h0
    go_enter Try.func9, Try.ntmps9
    generalize hW1 : w.alloc (.cells #[.int .u8 0, .slice none 0 0, .slice none 0 0] 25) = W1 at *
    go_wp2_with (first | (refine wpList_store_row (P := Try.prog) rfl 25 (.tmp 2) (.tmp 10) rfl w.heap.size #[.int .u8 0, .slice none 0 0, .slice none 0 0] rfl rfl 25 _ D0.out info25 rfl (all_item _ _ _ _ _ _ _) ?_))
    refine bodyPost_ret (results_two Try.results9 _ _ w.heap.size 25 _ (0, 0) _ _ rfl rfl (D0.out.setRow [.int .u8 0, .slice none 0 0, .slice none 0 0]) Try.underlying25 rfl info25) rfl ?_
    exact RDec.err hX.out (below_setRow' H0.out (Nat.le_refl w.heap.size) #[.int .u8 0, .slice none 0 0, .slice none 0 0])
  · have hli : ¬ (65536 : Int) < (n : Int) := by omega
    have hC := refRead_any l a n c (by omega) (l.length + 1) (l.length + 1) (Nat.le_refl _) 1 _ 0 n (hin.below h0) (Nat.le_refl _) (by omega) (by omega) (by omega)
    rw [show (l.take n).drop 0 = l by rw [List.drop_zero, ← hn, List.take_length]] at hC
    have hC : Calls Try.prog 46 #[.slice a n c, .int .i64 0, .int .i64 (n : Nat), .int .i64 1] (w.alloc (.cells #[.int .u8 0, .slice none 0 0, .slice none 0 0] 25)) (RrIs (rd (l.length + 1) 1 l) n (w.alloc (.cells #[.int .u8 0, .slice none 0 0, .slice none 0 0] 25))) := hC
    cases hE : rd (l.length + 1) 1 l with
    | error x =>
      have hX := Lib.hid (dec_bad (by omega) hE)
      have hz := ((rd_errs (l.length + 1) 1 l).1 x (Nat.le_refl _) hE).1
      rw [hE] at hC
      have HC := Lib.hid (rr_bad rfl hC)
      have hzb : ((x : Int) != 0) = true := by simp; omega
      have hzi : ¬ (x : Int) = 0 := by omega
      clear hin h0 hC hE hz
      go_enter Try.func9, Try.ntmps9
      generalize hW1 : w.alloc (.cells #[.int .u8 0, .slice none 0 0, .slice none 0 0] 25) = W1 at *
      go_wp2_with (first | (go_at_call 46; refine HC.out.mono ?_; rintro e w2 ⟨rfl, hb2⟩; have D0 := Lib.hid (D0.out.below' hb2); have H0 := Lib.hid (H0.out.trans (Below.mono hb2 H0.out.size))) | (refine wpList_store_row (P := Try.prog) rfl 25 (.tmp 4) (.tmp 16) rfl w2.heap.size #[.int .u8 0, .slice none 0 0, .slice none 0 0] rfl rfl 25 _ (Blk.new w2 25 [.int .u8 0, .slice none 0 0, .slice none 0 0]) info25 rfl (all_item _ _ _ _ _ _ _) ?_; have hB22 : Below w2.heap.size w2 ((w2.alloc (.cells #[.int .u8 0, .slice none 0 0, .slice none 0 0] 25)).setRow w2.heap.size #[.int .u8 0, .slice none 0 0, .slice none 0 0]) := below_setRow' ((Below.refl _ w2).alloc (Nat.le_refl _) _) (Nat.le_refl _) _; have D0 := Lib.hid (D0.out.below' hB22); have H0 := Lib.hid (H0.out.trans (Below.mono hB22 H0.out.size))) | (refine wpList_store_row (P := Try.prog) rfl 25 (.tmp 2) (.tmp 21) rfl w.heap.size #[.int .u8 0, .slice none 0 0, .slice none 0 0] rfl rfl 25 _ D0.out info25 rfl (all_item _ _ _ _ _ _ _) ?_))
      refine bodyPost_ret (results_two Try.results9 _ _ w.heap.size 25 _ (0, 0) _ _ rfl rfl (D0.out.setRow [.int .u8 0, .slice none 0 0, .slice none 0 0]) Try.underlying25 rfl info25) rfl ?_
      exact RDec.err hX.out (below_setRow' H0.out (Nat.le_refl w.heap.size) #[.int .u8 0, .slice none 0 0, .slice none 0 0])
    | ok q =>
      obtain ⟨t, b, k, r⟩ := q
      rw [hE] at hC
      have hrl := rd_len _ _ _ hE
      obtain ⟨P2, hP2⟩ : ∃ P2, n - r.length = P2 := ⟨_, rfl⟩
      have HC := Lib.hid (rr_good rfl hP2 hC)
      by_cases hr : r = []
      · subst hr
        have hX := Lib.hid (dec_good (by omega) hE)
        obtain rfl : P2 = n := by simpa using hP2.symm
        clear hin h0 hC hE hP2 hrl
        go_enter Try.func9, Try.ntmps9
        generalize hW1 : w.alloc (.cells #[.int .u8 0, .slice none 0 0, .slice none 0 0] 25) = W1 at *
        go_wp2_with (first | (go_at_call 46; refine HC.out.mono ?_; rintro e w2 ⟨v1, v2, L3, rfl, hV3, hN3, hb2⟩; obtain ⟨a1, c1, a2, c2, _, rfl, rfl, hit⟩ := hV3.item; have HV := Lib.hid hV3; have HWS := Lib.hid (show w.heap.size + 1 ≤ W1.heap.size by rw [← hW1]; simp); have D0 := Lib.hid (D0.out.below' hb2); have H0 := Lib.hid (H0.out.trans (Below.mono hb2 H0.out.size)); clear hV3 hN3 hit) | (refine wpList_store_row (P := Try.prog) rfl 25 (.tmp 4) (.tmp 16) rfl w2.heap.size #[.int .u8 (t : Nat), .slice a1 b.length c1, .slice a2 k.len c2] rfl rfl 25 _ (Blk.new w2 25 [.int .u8 0, .slice none 0 0, .slice none 0 0]) info25 rfl (all_item _ _ _ _ _ _ _) ?_; have hB22 : Below w2.heap.size w2 ((w2.alloc (.cells #[.int .u8 0, .slice none 0 0, .slice none 0 0] 25)).setRow w2.heap.size #[.int .u8 (t : Nat), .slice a1 b.length c1, .slice a2 k.len c2]) := below_setRow' ((Below.refl _ w2).alloc (Nat.le_refl _) _) (Nat.le_refl _) _; have DX := Lib.hid ((Blk.new w2 25 [.int .u8 0, .slice none 0 0, .slice none 0 0]).setRow [.int .u8 (t : Nat), .slice a1 b.length c1, .slice a2 k.len c2]); have D0 := Lib.hid (D0.out.below' hB22); have H0 := Lib.hid (H0.out.trans (Below.mono hB22 H0.out.size)); have HB4 := Lib.hid hB22; generalize (w2.alloc (.cells #[.int .u8 0, .slice none 0 0, .slice none 0 0] 25)).setRow w2.heap.size #[.int .u8 (t : Nat), .slice a1 b.length c1, .slice a2 k.len c2] = w4 at *) | (refine wpList_load_row (P := Try.prog) rfl 25 (.tmp 4) rfl w2.heap.size rfl 25 _ _ _ DX.out Try.underlying25 rfl info25 ?_) | (refine wpList_store_row (P := Try.prog) rfl 25 (.tmp 2) (.tmp 28) rfl w.heap.size #[.int .u8 (t : Nat), .slice a1 b.length c1, .slice a2 k.len c2] rfl rfl 25 _ D0.out info25 rfl (all_item _ _ _ _ _ _ _) ?_))
        refine bodyPost_ret (results_two Try.results9 _ _ w.heap.size 25 _ (0, 0) _ _ rfl rfl (D0.out.setRow [.int .u8 (t : Nat), .slice a1 b.length c1, .slice a2 k.len c2]) Try.underlying25 rfl info25) rfl ?_
        have hss := H0.out.size
        have hlt := HV.out.lt
        have hV := (HV.out.keep (w' := w4.setRow w.heap.size #[.int .u8 (t : Nat), .slice a1 b.length c1, .slice a2 k.len c2]) (fun g hg => (setRow_other w4 w.heap.size g #[.int .u8 (t : Nat), .slice a1 b.length c1, .slice a2 k.len c2] (by have := (hlt g hg).1; have := HWS.out; omega)).trans (HB4.out.block g (hlt g hg).2)))
        obtain ⟨b1, d1, b2, d2, _, e1, e2, hit⟩ := hV.item
        injection e1 with e1 _ e1'
        injection e2 with e2 _ e2'
        subst e1 e1' e2 e2'
        exact RDec.good hX.out (below_setRow' H0.out (Nat.le_refl w.heap.size) #[.int .u8 (t : Nat), .slice a1 b.length c1, .slice a2 k.len c2]) hit
      · have hrp : 0 < r.length := List.length_pos_iff.2 hr
        have hX := Lib.hid (dec_more (by omega) hE hr)
        have hpi : (P2 : Int) < (n : Int) := by omega
        clear hin h0 hC hE hP2 hrl hr
        go_enter Try.func9, Try.ntmps9
        generalize hW1 : w.alloc (.cells #[.int .u8 0, .slice none 0 0, .slice none 0 0] 25) = W1 at *
        go_wp2_with (first | (go_at_call 46; refine HC.out.mono ?_; rintro e w2 ⟨v1, v2, L3, rfl, hV3, hN3, hb2⟩; obtain ⟨a1, c1, a2, c2, _, rfl, rfl, hit⟩ := hV3.item; have HV := Lib.hid hV3; have HWS := Lib.hid (show w.heap.size + 1 ≤ W1.heap.size by rw [← hW1]; simp); have D0 := Lib.hid (D0.out.below' hb2); have H0 := Lib.hid (H0.out.trans (Below.mono hb2 H0.out.size)); clear hV3 hN3 hit) | (refine wpList_store_row (P := Try.prog) rfl 25 (.tmp 4) (.tmp 16) rfl w2.heap.size #[.int .u8 (t : Nat), .slice a1 b.length c1, .slice a2 k.len c2] rfl rfl 25 _ (Blk.new w2 25 [.int .u8 0, .slice none 0 0, .slice none 0 0]) info25 rfl (all_item _ _ _ _ _ _ _) ?_; have hB22 : Below w2.heap.size w2 ((w2.alloc (.cells #[.int .u8 0, .slice none 0 0, .slice none 0 0] 25)).setRow w2.heap.size #[.int .u8 (t : Nat), .slice a1 b.length c1, .slice a2 k.len c2]) := below_setRow' ((Below.refl _ w2).alloc (Nat.le_refl _) _) (Nat.le_refl _) _; have DX := Lib.hid ((Blk.new w2 25 [.int .u8 0, .slice none 0 0, .slice none 0 0]).setRow [.int .u8 (t : Nat), .slice a1 b.length c1, .slice a2 k.len c2]); have D0 := Lib.hid (D0.out.below' hB22); have H0 := Lib.hid (H0.out.trans (Below.mono hB22 H0.out.size)); have HB4 := Lib.hid hB22; generalize (w2.alloc (.cells #[.int .u8 0, .slice none 0 0, .slice none 0 0] 25)).setRow w2.heap.size #[.int .u8 (t : Nat), .slice a1 b.length c1, .slice a2 k.len c2] = w4 at *) | (refine wpList_store_row (P := Try.prog) rfl 25 (.tmp 2) (.tmp 27) rfl w.heap.size #[.int .u8 0, .slice none 0 0, .slice none 0 0] rfl rfl 25 _ D0.out info25 rfl (all_item _ _ _ _ _ _ _) ?_))
        refine bodyPost_ret (results_two Try.results9 _ _ w.heap.size 25 _ (0, 0) _ _ rfl rfl (D0.out.setRow [.int .u8 0, .slice none 0 0, .slice none 0 0]) Try.underlying25 rfl info25) rfl ?_
        exact RDec.err hX.out (below_setRow' H0.out (Nat.le_refl w.heap.size) #[.int .u8 0, .slice none 0 0, .slice none 0 0])
end Go.Proofs.Ytbabpmncdphnjaa
