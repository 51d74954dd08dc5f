/- The item of an extension's value, on both sides. No condition. The item of an extension's value, on both sides. No condition. -/
import Derived.Test.YtbabpmncdphnjaaMb
import Derived.Test.YtbabpmncdphnjaaMc
import Derived.Test.YtbabpmncdphnjaaRz
namespace Go.Proofs.Ytbabpmncdphnjaa
open Go.RowKit
set_option linter.unusedVariables false
set_option maxRecDepth 100000
set_option linter.unusedSimpArgs false

/-- what the document's Decode answers, by its blocks -/
def RK (t : Nat) (b : List Nat) (k : Tr) (w : World) (e : Ending) (w' : World) : Prop :=
  ∃ a1 n1 c1 a2 n2 c2, b.length = n1 ∧ k.len = n2 ∧ e = .returned (.tuple #[.agg #[.int .u8 (t : Nat), .slice a1 n1 c1, .slice a2 n2 c2], .int .i64 0]) ∧ b.length ≤ 1048576 ∧ Dep (FB w.heap.size) w' (fun x => ItIn x t a1 c1 a2 c2 b k) ∧ Below w.heap.size w w'
theorem own_bnd {w : World} {base t : Nat} {b : List Nat} {k : Tr} {xs : List Value} {L : List Nat} (h : OwnV w base (.node t b k .nil) xs L) : b.length ≤ 1048576 := by
  obtain ⟨w1, w2, xr, ys, L1, L2, e, h1, h2, h3, h4, h5, h6, h7, h8, eL⟩ := h
  exact h3
set_option maxHeartbeats 4000000 in
theorem rdec_k {l : List Nat} {t : Nat} {b : List Nat} {k : Tr} (h : decE l = .ok (t, b, k)) {w : World} {a : Option Addr} {n c : Nat} (hin : BIn w a n c l) : Calls Try.prog 9 #[.slice a n c] w (RK t b k w) := by
  have hn : l.length = n := hin.1.1
  have D0 := Lib.hid (Blk.new w 25 [.int .u8 0, .slice none 0 0, .slice none 0 0])
  have h0 := (Below.refl _ w).alloc (Nat.le_refl _) (.cells #[.int .u8 0, .slice none 0 0, .slice none 0 0] 25)
  have H0 := Lib.hid h0
  by_cases hlong : 65536 < n
  · rw [dec_long (by omega)] at h; cases h
  · have hli : ¬ (65536 : Int) < (n : Int) := by omega
    have hC := refRead_any l a n c (by omega) (l.length + 1) (l.length + 1) (Nat.le_refl _) 1 _ 0 n (hin.below h0) (Nat.le_refl _) (by omega) (by omega) (by omega)
    rw [show (l.take n).drop 0 = l by rw [List.drop_zero, ← hn, List.take_length]] at hC
    have hC : Calls Try.prog 46 #[.slice a n c, .int .i64 0, .int .i64 (n : Nat), .int .i64 1] (w.alloc (.cells #[.int .u8 0, .slice none 0 0, .slice none 0 0] 25)) (RrIs (rd (l.length + 1) 1 l) n (w.alloc (.cells #[.int .u8 0, .slice none 0 0, .slice none 0 0] 25))) := hC
    cases hE : rd (l.length + 1) 1 l with
    | error x => rw [dec_bad (by omega) hE] at h; cases h
    | ok q =>
      obtain ⟨t2, b2, k2, r⟩ := q
      by_cases hr : r = []
      · subst hr
        have hX := dec_good (by omega) hE
        rw [h] at hX
        injection hX with hX
        injection hX with e1 hX
        injection hX with e2 e3
        subst e1 e2 e3
        rw [hE] at hC
        have hrl := rd_len _ _ _ hE
        obtain ⟨P2, hP2⟩ : ∃ P2, n - ([] : List Nat).length = P2 := ⟨_, rfl⟩
        have HC := Lib.hid (rr_good rfl hP2 hC)
        obtain rfl : P2 = n := by simpa using hP2.symm
        clear hin h0 hC hE hP2 hrl
        go_enter Try.func9, Try.ntmps9
        generalize hW1 : w.alloc (.cells #[.int .u8 0, .slice none 0 0, .slice none 0 0] 25) = W1 at *
        go_wp2_with (first | (go_at_call 46; refine HC.out.mono ?_; rintro e w2 ⟨v1, v2, L3, rfl, hV3, hN3, hb2⟩; obtain ⟨a1, c1, a2, c2, _, rfl, rfl, hit⟩ := hV3.item; have HV := Lib.hid hV3; have HWS := Lib.hid (show w.heap.size + 1 ≤ W1.heap.size by rw [← hW1]; simp); have D0 := Lib.hid (D0.out.below' hb2); have H0 := Lib.hid (H0.out.trans (Below.mono hb2 H0.out.size)); clear hV3 hN3 hit) | (refine wpList_store_row (P := Try.prog) rfl 25 (.tmp 4) (.tmp 16) rfl w2.heap.size #[.int .u8 (t : Nat), .slice a1 b.length c1, .slice a2 k.len c2] rfl rfl 25 _ (Blk.new w2 25 [.int .u8 0, .slice none 0 0, .slice none 0 0]) info25 rfl (all_item _ _ _ _ _ _ _) ?_; have hB22 : Below w2.heap.size w2 ((w2.alloc (.cells #[.int .u8 0, .slice none 0 0, .slice none 0 0] 25)).setRow w2.heap.size #[.int .u8 (t : Nat), .slice a1 b.length c1, .slice a2 k.len c2]) := below_setRow' ((Below.refl _ w2).alloc (Nat.le_refl _) _) (Nat.le_refl _) _; have DX := Lib.hid ((Blk.new w2 25 [.int .u8 0, .slice none 0 0, .slice none 0 0]).setRow [.int .u8 (t : Nat), .slice a1 b.length c1, .slice a2 k.len c2]); have D0 := Lib.hid (D0.out.below' hB22); have H0 := Lib.hid (H0.out.trans (Below.mono hB22 H0.out.size)); have HB4 := Lib.hid hB22; generalize (w2.alloc (.cells #[.int .u8 0, .slice none 0 0, .slice none 0 0] 25)).setRow w2.heap.size #[.int .u8 (t : Nat), .slice a1 b.length c1, .slice a2 k.len c2] = w4 at *) | (refine wpList_load_row (P := Try.prog) rfl 25 (.tmp 4) rfl w2.heap.size rfl 25 _ _ _ DX.out Try.underlying25 rfl info25 ?_) | (refine wpList_store_row (P := Try.prog) rfl 25 (.tmp 2) (.tmp 28) rfl w.heap.size #[.int .u8 (t : Nat), .slice a1 b.length c1, .slice a2 k.len c2] rfl rfl 25 _ D0.out info25 rfl (all_item _ _ _ _ _ _ _) ?_))
        refine bodyPost_ret (results_two Try.results9 _ _ w.heap.size 25 _ (0, 0) _ _ rfl rfl (D0.out.setRow [.int .u8 (t : Nat), .slice a1 b.length c1, .slice a2 k.len c2]) Try.underlying25 rfl info25) rfl ?_
        have hss := H0.out.size
        have hlt := HV.out.lt
        have hV := (HV.out.keep (w' := w4.setRow w.heap.size #[.int .u8 (t : Nat), .slice a1 b.length c1, .slice a2 k.len c2]) (fun g hg => (setRow_other w4 w.heap.size g #[.int .u8 (t : Nat), .slice a1 b.length c1, .slice a2 k.len c2] (by have := (hlt g hg).1; have := HWS.out; omega)).trans (HB4.out.block g (hlt g hg).2)))
        obtain ⟨n1, hn1⟩ : ∃ q, b.length = q := ⟨_, rfl⟩
        obtain ⟨n2, hn2⟩ : ∃ q, k.len = q := ⟨_, rfl⟩
        exact ⟨a1, _, c1, a2, _, c2, rfl, rfl, rfl, own_bnd hV, (dep_item hV).mono (fun j (hj : W1.heap.size ≤ j) _ => by have := HWS.out; show w.heap.size ≤ j; omega), below_setRow' H0.out (Nat.le_refl w.heap.size) _⟩
      · rw [dec_more (by omega) hE hr] at h; cases h
theorem pdec_k {l : List Nat} {t : Nat} {b : List Nat} {k : Tr} (h : decE l = .ok (t, b, k)) {w : World} {a : Option Addr} {n c : Nat} (hin : BIn w a n c l) : Calls Try.prog 10 #[.slice a n c] w (RK t b k w) := by
  have := Decode_any l w a n c hin
  rw [h] at this
  refine this.mono fun e w' h => ?_
  obtain ⟨v1, v2, L, rfl, hV, _⟩ := h.2
  obtain ⟨a1, c1, a2, c2, _, rfl, rfl, hit⟩ := hV.item
  exact ⟨a1, _, c1, a2, _, c2, rfl, rfl, rfl, own_bnd hV, dep_item hV, h.1⟩
/-- Decode refuses -/
def RX (x : Nat) (w : World) (e : Ending) (w' : World) : Prop := e = .returned (.tuple #[.agg #[.int .u8 0, .slice none 0 0, .slice none 0 0], .int .i64 (x : Nat)]) ∧ Below w.heap.size w w'
theorem pdec_x {l : List Nat} {x : Nat} (h : decE l = .error x) {w : World} {a : Option Addr} {n c : Nat} (hin : BIn w a n c l) : Calls Try.prog 10 #[.slice a n c] w (RX x w) := by
  have := Decode_any l w a n c hin
  rw [h] at this; exact this.mono fun e w' h => ⟨h.2, h.1⟩
theorem rdec_x {l : List Nat} {x : Nat} (h : decE l = .error x) {w : World} {a : Option Addr} {n c : Nat} (hin : BIn w a n c l) : Calls Try.prog 9 #[.slice a n c] w (RX x w) := by
  have := refDecode_any l w a n c hin
  rw [h] at this; exact this.mono fun e w' h => ⟨h.2, h.1⟩
theorem decx_ne {l : List Nat} {c : Nat} (h : decE l = .error c) : 0 < c := by
  by_cases hl : 65536 < l.length
  · rw [dec_long hl] at h; injection h with h; omega
  · cases hE : rd (l.length + 1) 1 l with
    | error x =>
      rw [dec_bad hl hE] at h
      injection h with h
      have := ((rd_errs (l.length + 1) 1 l).1 x (Nat.le_refl _) hE).1
      omega
    | ok q =>
      obtain ⟨t, b, k, r⟩ := q
      by_cases hr : r = []
      · subst hr; rw [dec_good hl hE] at h; cases h
      · rw [dec_more hl hE hr] at h; injection h with h; omega
end Go.Proofs.Ytbabpmncdphnjaa
namespace Go.Proofs.Ytbabpmncdphnjaa
open Go.RowKit
set_option linter.unusedVariables false
set_option maxRecDepth 100000
set_option linter.unusedSimpArgs false

theorem built25 : Try.prog.built 25 [] = some #[.int .u8 0, .slice none 0 0, .slice none 0 0] := by kernel_rfl
theorem FoundX.seen {x : XV} {w : World} {e : Ending} {w' : World} (h : FoundX x w e w') : SeenX x w e w' := by
  obtain ⟨a, m, c, h1, h2, _, h4, h5⟩ := h
  exact ⟨a, m, c, h1, h2, h4, h5⟩
/-- what is answered about an extension's item -/
def ItmIs (er t : Nat) (b : List Nat) (k : Tr) (w : World) (e : Ending) (w' : World) : Prop :=
  ∃ a1 n1 c1 a2 n2 c2, b.length = n1 ∧ k.len = n2 ∧ e = .returned (.tuple #[.agg #[.int .u8 (t : Nat), .slice a1 n1 c1, .slice a2 n2 c2], .int .i64 (er : Nat)]) ∧ b.length ≤ 1048576 ∧ ItIn w' t a1 c1 a2 c2 b k ∧ Below w.heap.size w w'
theorem itm_zero (er : Nat) {w w' : World} (hb : Below w.heap.size w w') : ItmIs er 0 [] .nil w (.returned (.tuple #[.agg #[.int .u8 0, .slice none 0 0, .slice none 0 0], .int .i64 (er : Nat)])) w' :=
  ⟨none, 0, 0, none, 0, 0, rfl, rfl, rfl, by simp, ⟨by omega, bin_empty w' none 0 (by simp [maxLen]) (fun _ => rfl), KIn.nil w'⟩, hb⟩

set_option maxRecDepth 100000 in
set_option maxHeartbeats 4000000 in
theorem itemOf_ok (w : World) (sn : Int) (is su : ByteArray) (ka : Option Addr) (kn kc : Nat) (xa : Option Addr) (n xc : Nat) (sa : Option Addr) (sl sc : Nat) (z : Int) (x : XV) (hF : ∀ W : World, Below w.heap.size w W → Calls Try.prog 38 #[.agg #[.int .u64 sn, .string is, .string su, .slice ka kn kc, .slice xa n xc, .slice sa sl sc], .int .i64 z] W (SeenX x W)) {t : Nat} {b : List Nat} {k : Tr} (hD : decE x.2.2 = .ok (t, b, k)) : Calls Try.prog 76 #[.agg #[.int .u64 sn, .string is, .string su, .slice ka kn kc, .slice xa n xc, .slice sa sl sc], .int .i64 z] w (ItmIs 0 t b k w) := by
  have hb := ((Below.refl _ w).alloc (Nat.le_refl _) (.cells #[.int .u64 sn, .string is, .string su, .slice ka kn kc, .slice xa n xc, .slice sa sl sc] 55)).alloc (by simp) (.cells #[.int .u8 0, .slice none 0 0, .slice none 0 0] 25)
  have H00 := Lib.hid hb
  have HSZ := Lib.hid (show w.heap.size + 2 ≤ ((w.alloc (.cells #[.int .u64 sn, .string is, .string su, .slice ka kn kc, .slice xa n xc, .slice sa sl sc] 55)).alloc (.cells #[.int .u8 0, .slice none 0 0, .slice none 0 0] 25)).heap.size by simp)
  have HBX := Lib.hid ((Blk.new w 55 [.int .u64 sn, .string is, .string su, .slice ka kn kc, .slice xa n xc, .slice sa sl sc]).alloc (.cells #[.int .u8 0, .slice none 0 0, .slice none 0 0] 25))
  have HRS := Lib.hid (Blk.new2 w (.cells #[.int .u64 sn, .string is, .string su, .slice ka kn kc, .slice xa n xc, .slice sa sl sc] 55) 25 [.int .u8 0, .slice none 0 0, .slice none 0 0])
  have HF := Lib.hid (hF _ hb)
  have hb0 := built25
  have HD := Lib.hid (fun (W : World) (a : Option Addr) (m c : Nat) (hin : BIn W a m c x.2.2) => pdec_k hD hin)
  clear hD
  clear hb hF
  go_enter Try.func76, Try.ntmps76
  generalize hW0 : (w.alloc (.cells #[.int .u64 sn, .string is, .string su, .slice ka kn kc, .slice xa n xc, .slice sa sl sc] 55)).alloc (.cells #[.int .u8 0, .slice none 0 0, .slice none 0 0] 25) = W0 at *
  go_wp2_with (first | (refine wpList_load_row (P := Try.prog) rfl 55 (.tmp 2) rfl w.heap.size rfl 55 _ _ _ HBX.out Try.underlying55 rfl info55 ?_) | (go_at_call 38; go_loud ((with_reducible refine HF.out.mono ?_); rintro e w2 ⟨a3, m3, c3, hm3, rfl, hbi3, hb2⟩; have HBI := Lib.hid hbi3; have H02 := Lib.hid (H00.out.trans (hb2.mono H00.out.size)); have HS2 := Lib.hid (show w.heap.size + 2 ≤ w2.heap.size by { have h1 := hb2.size; have h2 := HSZ.out; omega }); have HRS := Lib.hid (HRS.out.below' hb2); clear hb2 hbi3 hm3)) | (refine wpList_store_row (P := Try.prog) rfl 65 (.tmp 6) (.tmp 14) rfl w2.heap.size #[.int .i64 x.1, .bool x.2.1, .slice a3 m3 c3] rfl rfl 65 _ (Blk.new w2 65 [.int .i64 0, .bool false, .slice none 0 0]) info65 rfl (all_ext _ _ _ _ _) ?_; go_loud (have hb3 : Gr w2 ((w2.alloc (.cells #[.int .i64 0, .bool false, .slice none 0 0] 65)).setRow w2.heap.size #[.int .i64 x.1, .bool x.2.1, .slice a3 m3 c3]) := below_setRow' (Gr.alloc w2 _) (Nat.le_refl _) _; have HE := Lib.hid ((Blk.new w2 65 [.int .i64 0, .bool false, .slice none 0 0]).setRow [.int .i64 x.1, .bool x.2.1, .slice a3 m3 c3]); have H03 := Lib.hid (H02.out.trans (Below.mono hb3 H02.out.size)); have HRS := Lib.hid (HRS.out.below' hb3); have HBI := Lib.hid (HBI.out.below hb3); have HS3 := Lib.hid (show w.heap.size + 2 ≤ ((w2.alloc (.cells #[.int .i64 0, .bool false, .slice none 0 0] 65)).setRow w2.heap.size #[.int .i64 x.1, .bool x.2.1, .slice a3 m3 c3]).heap.size by { have h1 := hb3.size; have h2 := HS2.out; omega }); clear hb3; generalize (w2.alloc (.cells #[.int .i64 0, .bool false, .slice none 0 0] 65)).setRow w2.heap.size #[.int .i64 x.1, .bool x.2.1, .slice a3 m3 c3] = w3 at *; have k5 := blkc HE.out (i := 2) rfl)) | (go_at_call 10; go_loud ((with_reducible refine (HD.out _ _ _ _ HBI.out).mono ?_); rintro e w4 ⟨a4, n4, c4, b4, m4, d4, hn4, hm4, rfl, hbd, hd4, hb4⟩; have HN := Lib.hid hn4; have HM := Lib.hid hm4; have HBD := Lib.hid hbd; have HDP := Lib.hid (hd4.mono (E := FB (w.heap.size + 2)) (fun j (hj : w3.heap.size ≤ j) _ => by { have h2 := HS3.out; show w.heap.size + 2 ≤ j; omega })); have H04 := Lib.hid (H03.out.trans (Below.mono hb4 H03.out.size)); have HRS := Lib.hid (HRS.out.below' hb4); have HS4 := Lib.hid (show w.heap.size + 2 ≤ w4.heap.size by { have h1 := Below.size hb4; have h2 := HS3.out; omega }); clear hn4 hm4 hbd hd4 hb4)) | (refine wpList_store_row (P := Try.prog) rfl 25 (.tmp 8) (.tmp 23) rfl w4.heap.size #[.int .u8 (t : Nat), .slice a4 n4 c4, .slice b4 m4 d4] rfl rfl 25 _ (Blk.new w4 25 [.int .u8 0, .slice none 0 0, .slice none 0 0]) info25 rfl (all_item _ _ _ _ _ _ _) ?_; go_loud (have hb5 : Gr w4 ((w4.alloc (.cells #[.int .u8 0, .slice none 0 0, .slice none 0 0] 25)).setRow w4.heap.size #[.int .u8 (t : Nat), .slice a4 n4 c4, .slice b4 m4 d4]) := below_setRow' (Gr.alloc w4 _) (Nat.le_refl _) _; have HX := Lib.hid ((Blk.new w4 25 [.int .u8 0, .slice none 0 0, .slice none 0 0]).setRow [.int .u8 (t : Nat), .slice a4 n4 c4, .slice b4 m4 d4]); have H05 := Lib.hid (H04.out.trans (Below.mono hb5 H04.out.size)); have HRS := Lib.hid (HRS.out.below' hb5); have HDP := Lib.hid (HDP.out.below hb5); clear hb5; generalize (w4.alloc (.cells #[.int .u8 0, .slice none 0 0, .slice none 0 0] 25)).setRow w4.heap.size #[.int .u8 (t : Nat), .slice a4 n4 c4, .slice b4 m4 d4] = w5 at *)) | (refine wpList_load_row (P := Try.prog) rfl 25 (.tmp 8) rfl w4.heap.size rfl 25 _ _ _ HX.out Try.underlying25 rfl info25 ?_) | (refine wpList_store_row (P := Try.prog) rfl 25 (.tmp 4) (.tmp 28) rfl (w.heap.size + 1) #[.int .u8 (t : Nat), .slice a4 n4 c4, .slice b4 m4 d4] rfl rfl 25 _ HRS.out info25 rfl (all_item _ _ _ _ _ _ _) ?_))
  refine bodyPost_ret (results_two Try.results76 _ _ (w.heap.size + 1) 25 _ (0, 0) _ _ rfl rfl (HRS.out.setRow [.int .u8 (t : Nat), .slice a4 n4 c4, .slice b4 m4 d4]) Try.underlying25 rfl info25) rfl ?_
  exact ⟨a4, n4, c4, b4, m4, d4, HN.out, HM.out, rfl, HBD.out, (HDP.out.row (w.heap.size + 1) #[.int .u8 (t : Nat), .slice a4 n4 c4, .slice b4 m4 d4] (fun (h : w.heap.size + 2 ≤ w.heap.size + 1) => by omega)).now, below_setRow' H05.out (by omega) _⟩

set_option maxRecDepth 100000 in
set_option maxHeartbeats 4000000 in
theorem itemOf_bad (w : World) (sn : Int) (is su : ByteArray) (ka : Option Addr) (kn kc : Nat) (xa : Option Addr) (n xc : Nat) (sa : Option Addr) (sl sc : Nat) (z : Int) (x : XV) (hF : ∀ W : World, Below w.heap.size w W → Calls Try.prog 38 #[.agg #[.int .u64 sn, .string is, .string su, .slice ka kn kc, .slice xa n xc, .slice sa sl sc], .int .i64 z] W (SeenX x W)) {y : Nat} (hD : decE x.2.2 = .error y) : Calls Try.prog 76 #[.agg #[.int .u64 sn, .string is, .string su, .slice ka kn kc, .slice xa n xc, .slice sa sl sc], .int .i64 z] w (ItmIs 134 0 [] .nil w) := by
  have hb := ((Below.refl _ w).alloc (Nat.le_refl _) (.cells #[.int .u64 sn, .string is, .string su, .slice ka kn kc, .slice xa n xc, .slice sa sl sc] 55)).alloc (by simp) (.cells #[.int .u8 0, .slice none 0 0, .slice none 0 0] 25)
  have H00 := Lib.hid hb
  have HSZ := Lib.hid (show w.heap.size + 2 ≤ ((w.alloc (.cells #[.int .u64 sn, .string is, .string su, .slice ka kn kc, .slice xa n xc, .slice sa sl sc] 55)).alloc (.cells #[.int .u8 0, .slice none 0 0, .slice none 0 0] 25)).heap.size by simp)
  have HBX := Lib.hid ((Blk.new w 55 [.int .u64 sn, .string is, .string su, .slice ka kn kc, .slice xa n xc, .slice sa sl sc]).alloc (.cells #[.int .u8 0, .slice none 0 0, .slice none 0 0] 25))
  have HRS := Lib.hid (Blk.new2 w (.cells #[.int .u64 sn, .string is, .string su, .slice ka kn kc, .slice xa n xc, .slice sa sl sc] 55) 25 [.int .u8 0, .slice none 0 0, .slice none 0 0])
  have HF := Lib.hid (hF _ hb)
  have hb0 := built25
  have HD := Lib.hid (fun (W : World) (a : Option Addr) (m c : Nat) (hin : BIn W a m c x.2.2) => pdec_x hD hin)
  have hy := decx_ne hD
  have hyb : ((y : Int) != 0) = true := by simp; omega
  have hyi : ¬ (y : Int) = 0 := by omega
  clear hD hy
  clear hb hF
  go_enter Try.func76, Try.ntmps76
  generalize hW0 : (w.alloc (.cells #[.int .u64 sn, .string is, .string su, .slice ka kn kc, .slice xa n xc, .slice sa sl sc] 55)).alloc (.cells #[.int .u8 0, .slice none 0 0, .slice none 0 0] 25) = W0 at *
  go_wp2_with (first | (refine wpList_load_row (P := Try.prog) rfl 55 (.tmp 2) rfl w.heap.size rfl 55 _ _ _ HBX.out Try.underlying55 rfl info55 ?_) | (go_at_call 38; go_loud ((with_reducible refine HF.out.mono ?_); rintro e w2 ⟨a3, m3, c3, hm3, rfl, hbi3, hb2⟩; have HBI := Lib.hid hbi3; have H02 := Lib.hid (H00.out.trans (hb2.mono H00.out.size)); have HS2 := Lib.hid (show w.heap.size + 2 ≤ w2.heap.size by { have h1 := hb2.size; have h2 := HSZ.out; omega }); have HRS := Lib.hid (HRS.out.below' hb2); clear hb2 hbi3 hm3)) | (refine wpList_store_row (P := Try.prog) rfl 65 (.tmp 6) (.tmp 14) rfl w2.heap.size #[.int .i64 x.1, .bool x.2.1, .slice a3 m3 c3] rfl rfl 65 _ (Blk.new w2 65 [.int .i64 0, .bool false, .slice none 0 0]) info65 rfl (all_ext _ _ _ _ _) ?_; go_loud (have hb3 : Gr w2 ((w2.alloc (.cells #[.int .i64 0, .bool false, .slice none 0 0] 65)).setRow w2.heap.size #[.int .i64 x.1, .bool x.2.1, .slice a3 m3 c3]) := below_setRow' (Gr.alloc w2 _) (Nat.le_refl _) _; have HE := Lib.hid ((Blk.new w2 65 [.int .i64 0, .bool false, .slice none 0 0]).setRow [.int .i64 x.1, .bool x.2.1, .slice a3 m3 c3]); have H03 := Lib.hid (H02.out.trans (Below.mono hb3 H02.out.size)); have HRS := Lib.hid (HRS.out.below' hb3); have HBI := Lib.hid (HBI.out.below hb3); have HS3 := Lib.hid (show w.heap.size + 2 ≤ ((w2.alloc (.cells #[.int .i64 0, .bool false, .slice none 0 0] 65)).setRow w2.heap.size #[.int .i64 x.1, .bool x.2.1, .slice a3 m3 c3]).heap.size by { have h1 := hb3.size; have h2 := HS2.out; omega }); clear hb3; generalize (w2.alloc (.cells #[.int .i64 0, .bool false, .slice none 0 0] 65)).setRow w2.heap.size #[.int .i64 x.1, .bool x.2.1, .slice a3 m3 c3] = w3 at *; have k5 := blkc HE.out (i := 2) rfl)) | (go_at_call 10; go_loud ((with_reducible refine (HD.out _ _ _ _ HBI.out).mono ?_); rintro e w4 ⟨rfl, hb4⟩; have H04 := Lib.hid (H03.out.trans (Below.mono hb4 H03.out.size)); have HRS := Lib.hid (HRS.out.below' hb4); have HS4 := Lib.hid (show w.heap.size + 2 ≤ w4.heap.size by { have h1 := Below.size hb4; have h2 := HS3.out; omega }); clear hb4)) | (refine wpList_store_row (P := Try.prog) rfl 25 (.tmp 8) (.tmp 23) rfl w4.heap.size #[.int .u8 0, .slice none 0 0, .slice none 0 0] rfl rfl 25 _ (Blk.new w4 25 [.int .u8 0, .slice none 0 0, .slice none 0 0]) info25 rfl (all_item _ _ _ _ _ _ _) ?_; go_loud (have hb5 : Gr w4 ((w4.alloc (.cells #[.int .u8 0, .slice none 0 0, .slice none 0 0] 25)).setRow w4.heap.size #[.int .u8 0, .slice none 0 0, .slice none 0 0]) := below_setRow' (Gr.alloc w4 _) (Nat.le_refl _) _; have HX := Lib.hid ((Blk.new w4 25 [.int .u8 0, .slice none 0 0, .slice none 0 0]).setRow [.int .u8 0, .slice none 0 0, .slice none 0 0]); have H05 := Lib.hid (H04.out.trans (Below.mono hb5 H04.out.size)); have HRS := Lib.hid (HRS.out.below' hb5); clear hb5; generalize (w4.alloc (.cells #[.int .u8 0, .slice none 0 0, .slice none 0 0] 25)).setRow w4.heap.size #[.int .u8 0, .slice none 0 0, .slice none 0 0] = w5 at *)) | (refine wpList_store_row (P := Try.prog) rfl 25 (.tmp 4) (.tmp 27) rfl (w.heap.size + 1) #[.int .u8 0, .slice none 0 0, .slice none 0 0] rfl rfl 25 _ HRS.out info25 rfl (all_item _ _ _ _ _ _ _) ?_))
  refine bodyPost_ret (results_two Try.results76 _ _ (w.heap.size + 1) 25 _ (0, 0) _ _ rfl rfl (HRS.out.setRow [.int .u8 0, .slice none 0 0, .slice none 0 0]) Try.underlying25 rfl info25) rfl ?_
  exact itm_zero 134 (below_setRow' H05.out (by omega) _)

set_option maxRecDepth 100000 in
set_option maxHeartbeats 4000000 in
theorem itemOf_none (w : World) (sn : Int) (is su : ByteArray) (ka : Option Addr) (kn kc : Nat) (xa : Option Addr) (n xc : Nat) (sa : Option Addr) (sl sc : Nat) (z : Int) (hF : ∀ W : World, Below w.heap.size w W → Calls Try.prog 38 #[.agg #[.int .u64 sn, .string is, .string su, .slice ka kn kc, .slice xa n xc, .slice sa sl sc], .int .i64 z] W (NoneX W)) : Calls Try.prog 76 #[.agg #[.int .u64 sn, .string is, .string su, .slice ka kn kc, .slice xa n xc, .slice sa sl sc], .int .i64 z] w (ItmIs 131 0 [] .nil w) := by
  have hb := ((Below.refl _ w).alloc (Nat.le_refl _) (.cells #[.int .u64 sn, .string is, .string su, .slice ka kn kc, .slice xa n xc, .slice sa sl sc] 55)).alloc (by simp) (.cells #[.int .u8 0, .slice none 0 0, .slice none 0 0] 25)
  have H00 := Lib.hid hb
  have HSZ := Lib.hid (show w.heap.size + 2 ≤ ((w.alloc (.cells #[.int .u64 sn, .string is, .string su, .slice ka kn kc, .slice xa n xc, .slice sa sl sc] 55)).alloc (.cells #[.int .u8 0, .slice none 0 0, .slice none 0 0] 25)).heap.size by simp)
  have HBX := Lib.hid ((Blk.new w 55 [.int .u64 sn, .string is, .string su, .slice ka kn kc, .slice xa n xc, .slice sa sl sc]).alloc (.cells #[.int .u8 0, .slice none 0 0, .slice none 0 0] 25))
  have HRS := Lib.hid (Blk.new2 w (.cells #[.int .u64 sn, .string is, .string su, .slice ka kn kc, .slice xa n xc, .slice sa sl sc] 55) 25 [.int .u8 0, .slice none 0 0, .slice none 0 0])
  have HF := Lib.hid (hF _ hb)
  have hb0 := built25
  clear hb hF
  go_enter Try.func76, Try.ntmps76
  generalize hW0 : (w.alloc (.cells #[.int .u64 sn, .string is, .string su, .slice ka kn kc, .slice xa n xc, .slice sa sl sc] 55)).alloc (.cells #[.int .u8 0, .slice none 0 0, .slice none 0 0] 25) = W0 at *
  go_wp2_with (first | (refine wpList_load_row (P := Try.prog) rfl 55 (.tmp 2) rfl w.heap.size rfl 55 _ _ _ HBX.out Try.underlying55 rfl info55 ?_) | (go_at_call 38; go_loud ((with_reducible refine HF.out.mono ?_); rintro e w2 ⟨rfl, hb2⟩; have H02 := Lib.hid (H00.out.trans (hb2.mono H00.out.size)); have HRS := Lib.hid (HRS.out.below' hb2); clear hb2)) | (refine wpList_store_row (P := Try.prog) rfl 65 (.tmp 6) (.tmp 14) rfl w2.heap.size #[.int .i64 0, .bool false, .slice none 0 0] rfl rfl 65 _ (Blk.new w2 65 [.int .i64 0, .bool false, .slice none 0 0]) info65 rfl (all_ext _ _ _ _ _) ?_; go_loud (have hb3 : Gr w2 ((w2.alloc (.cells #[.int .i64 0, .bool false, .slice none 0 0] 65)).setRow w2.heap.size #[.int .i64 0, .bool false, .slice none 0 0]) := below_setRow' (Gr.alloc w2 _) (Nat.le_refl _) _; have H03 := Lib.hid (H02.out.trans (Below.mono hb3 H02.out.size)); have HRS := Lib.hid (HRS.out.below' hb3); clear hb3; generalize (w2.alloc (.cells #[.int .i64 0, .bool false, .slice none 0 0] 65)).setRow w2.heap.size #[.int .i64 0, .bool false, .slice none 0 0] = w3 at *)) | (refine wpList_store_row (P := Try.prog) rfl 25 (.tmp 4) (.tmp 18) rfl (w.heap.size + 1) #[.int .u8 0, .slice none 0 0, .slice none 0 0] rfl rfl 25 _ HRS.out info25 rfl (all_item _ _ _ _ _ _ _) ?_))
  refine bodyPost_ret (results_two Try.results76 _ _ (w.heap.size + 1) 25 _ (0, 0) _ _ rfl rfl (HRS.out.setRow [.int .u8 0, .slice none 0 0, .slice none 0 0]) Try.underlying25 rfl info25) rfl ?_
  exact itm_zero 131 (below_setRow' H03.out (by omega) _)

set_option maxRecDepth 100000 in
set_option maxHeartbeats 4000000 in
theorem refItem_ok (w : World) (sn : Int) (is su : ByteArray) (ka : Option Addr) (kn kc : Nat) (xa : Option Addr) (n xc : Nat) (sa : Option Addr) (sl sc : Nat) (z : Int) (x : XV) (hF : ∀ W : World, Below w.heap.size w W → Calls Try.prog 39 #[.agg #[.int .u64 sn, .string is, .string su, .slice ka kn kc, .slice xa n xc, .slice sa sl sc], .int .i64 z] W (SeenX x W)) {t : Nat} {b : List Nat} {k : Tr} (hD : decE x.2.2 = .ok (t, b, k)) : Calls Try.prog 78 #[.agg #[.int .u64 sn, .string is, .string su, .slice ka kn kc, .slice xa n xc, .slice sa sl sc], .int .i64 z] w (ItmIs 0 t b k w) := by
  have hb := ((Below.refl _ w).alloc (Nat.le_refl _) (.cells #[.int .u64 sn, .string is, .string su, .slice ka kn kc, .slice xa n xc, .slice sa sl sc] 55)).alloc (by simp) (.cells #[.int .u8 0, .slice none 0 0, .slice none 0 0] 25)
  have H00 := Lib.hid hb
  have HSZ := Lib.hid (show w.heap.size + 2 ≤ ((w.alloc (.cells #[.int .u64 sn, .string is, .string su, .slice ka kn kc, .slice xa n xc, .slice sa sl sc] 55)).alloc (.cells #[.int .u8 0, .slice none 0 0, .slice none 0 0] 25)).heap.size by simp)
  have HBX := Lib.hid ((Blk.new w 55 [.int .u64 sn, .string is, .string su, .slice ka kn kc, .slice xa n xc, .slice sa sl sc]).alloc (.cells #[.int .u8 0, .slice none 0 0, .slice none 0 0] 25))
  have HRS := Lib.hid (Blk.new2 w (.cells #[.int .u64 sn, .string is, .string su, .slice ka kn kc, .slice xa n xc, .slice sa sl sc] 55) 25 [.int .u8 0, .slice none 0 0, .slice none 0 0])
  have HF := Lib.hid (hF _ hb)
  have hb0 := built25
  have HD := Lib.hid (fun (W : World) (a : Option Addr) (m c : Nat) (hin : BIn W a m c x.2.2) => rdec_k hD hin)
  clear hD
  clear hb hF
  go_enter Try.func78, Try.ntmps78
  generalize hW0 : (w.alloc (.cells #[.int .u64 sn, .string is, .string su, .slice ka kn kc, .slice xa n xc, .slice sa sl sc] 55)).alloc (.cells #[.int .u8 0, .slice none 0 0, .slice none 0 0] 25) = W0 at *
  go_wp2_with (first | (refine wpList_load_row (P := Try.prog) rfl 55 (.tmp 2) rfl w.heap.size rfl 55 _ _ _ HBX.out Try.underlying55 rfl info55 ?_) | (go_at_call 39; go_loud ((with_reducible refine HF.out.mono ?_); rintro e w2 ⟨a3, m3, c3, hm3, rfl, hbi3, hb2⟩; have HBI := Lib.hid hbi3; have H02 := Lib.hid (H00.out.trans (hb2.mono H00.out.size)); have HS2 := Lib.hid (show w.heap.size + 2 ≤ w2.heap.size by { have h1 := hb2.size; have h2 := HSZ.out; omega }); have HRS := Lib.hid (HRS.out.below' hb2); clear hb2 hbi3 hm3)) | (refine wpList_store_row (P := Try.prog) rfl 65 (.tmp 6) (.tmp 14) rfl w2.heap.size #[.int .i64 x.1, .bool x.2.1, .slice a3 m3 c3] rfl rfl 65 _ (Blk.new w2 65 [.int .i64 0, .bool false, .slice none 0 0]) info65 rfl (all_ext _ _ _ _ _) ?_; go_loud (have hb3 : Gr w2 ((w2.alloc (.cells #[.int .i64 0, .bool false, .slice none 0 0] 65)).setRow w2.heap.size #[.int .i64 x.1, .bool x.2.1, .slice a3 m3 c3]) := below_setRow' (Gr.alloc w2 _) (Nat.le_refl _) _; have HE := Lib.hid ((Blk.new w2 65 [.int .i64 0, .bool false, .slice none 0 0]).setRow [.int .i64 x.1, .bool x.2.1, .slice a3 m3 c3]); have H03 := Lib.hid (H02.out.trans (Below.mono hb3 H02.out.size)); have HRS := Lib.hid (HRS.out.below' hb3); have HBI := Lib.hid (HBI.out.below hb3); have HS3 := Lib.hid (show w.heap.size + 2 ≤ ((w2.alloc (.cells #[.int .i64 0, .bool false, .slice none 0 0] 65)).setRow w2.heap.size #[.int .i64 x.1, .bool x.2.1, .slice a3 m3 c3]).heap.size by { have h1 := hb3.size; have h2 := HS2.out; omega }); clear hb3; generalize (w2.alloc (.cells #[.int .i64 0, .bool false, .slice none 0 0] 65)).setRow w2.heap.size #[.int .i64 x.1, .bool x.2.1, .slice a3 m3 c3] = w3 at *; have k5 := blkc HE.out (i := 2) rfl)) | (go_at_call 9; go_loud ((with_reducible refine (HD.out _ _ _ _ HBI.out).mono ?_); rintro e w4 ⟨a4, n4, c4, b4, m4, d4, hn4, hm4, rfl, hbd, hd4, hb4⟩; have HN := Lib.hid hn4; have HM := Lib.hid hm4; have HBD := Lib.hid hbd; have HDP := Lib.hid (hd4.mono (E := FB (w.heap.size + 2)) (fun j (hj : w3.heap.size ≤ j) _ => by { have h2 := HS3.out; show w.heap.size + 2 ≤ j; omega })); have H04 := Lib.hid (H03.out.trans (Below.mono hb4 H03.out.size)); have HRS := Lib.hid (HRS.out.below' hb4); have HS4 := Lib.hid (show w.heap.size + 2 ≤ w4.heap.size by { have h1 := Below.size hb4; have h2 := HS3.out; omega }); clear hn4 hm4 hbd hd4 hb4)) | (refine wpList_store_row (P := Try.prog) rfl 25 (.tmp 8) (.tmp 23) rfl w4.heap.size #[.int .u8 (t : Nat), .slice a4 n4 c4, .slice b4 m4 d4] rfl rfl 25 _ (Blk.new w4 25 [.int .u8 0, .slice none 0 0, .slice none 0 0]) info25 rfl (all_item _ _ _ _ _ _ _) ?_; go_loud (have hb5 : Gr w4 ((w4.alloc (.cells #[.int .u8 0, .slice none 0 0, .slice none 0 0] 25)).setRow w4.heap.size #[.int .u8 (t : Nat), .slice a4 n4 c4, .slice b4 m4 d4]) := below_setRow' (Gr.alloc w4 _) (Nat.le_refl _) _; have HX := Lib.hid ((Blk.new w4 25 [.int .u8 0, .slice none 0 0, .slice none 0 0]).setRow [.int .u8 (t : Nat), .slice a4 n4 c4, .slice b4 m4 d4]); have H05 := Lib.hid (H04.out.trans (Below.mono hb5 H04.out.size)); have HRS := Lib.hid (HRS.out.below' hb5); have HDP := Lib.hid (HDP.out.below hb5); clear hb5; generalize (w4.alloc (.cells #[.int .u8 0, .slice none 0 0, .slice none 0 0] 25)).setRow w4.heap.size #[.int .u8 (t : Nat), .slice a4 n4 c4, .slice b4 m4 d4] = w5 at *)) | (refine wpList_load_row (P := Try.prog) rfl 25 (.tmp 8) rfl w4.heap.size rfl 25 _ _ _ HX.out Try.underlying25 rfl info25 ?_) | (refine wpList_store_row (P := Try.prog) rfl 25 (.tmp 4) (.tmp 28) rfl (w.heap.size + 1) #[.int .u8 (t : Nat), .slice a4 n4 c4, .slice b4 m4 d4] rfl rfl 25 _ HRS.out info25 rfl (all_item _ _ _ _ _ _ _) ?_))
  refine bodyPost_ret (results_two Try.results78 _ _ (w.heap.size + 1) 25 _ (0, 0) _ _ rfl rfl (HRS.out.setRow [.int .u8 (t : Nat), .slice a4 n4 c4, .slice b4 m4 d4]) Try.underlying25 rfl info25) rfl ?_
  exact ⟨a4, n4, c4, b4, m4, d4, HN.out, HM.out, rfl, HBD.out, (HDP.out.row (w.heap.size + 1) #[.int .u8 (t : Nat), .slice a4 n4 c4, .slice b4 m4 d4] (fun (h : w.heap.size + 2 ≤ w.heap.size + 1) => by omega)).now, below_setRow' H05.out (by omega) _⟩

set_option maxRecDepth 100000 in
set_option maxHeartbeats 4000000 in
theorem refItem_bad (w : World) (sn : Int) (is su : ByteArray) (ka : Option Addr) (kn kc : Nat) (xa : Option Addr) (n xc : Nat) (sa : Option Addr) (sl sc : Nat) (z : Int) (x : XV) (hF : ∀ W : World, Below w.heap.size w W → Calls Try.prog 39 #[.agg #[.int .u64 sn, .string is, .string su, .slice ka kn kc, .slice xa n xc, .slice sa sl sc], .int .i64 z] W (SeenX x W)) {y : Nat} (hD : decE x.2.2 = .error y) : Calls Try.prog 78 #[.agg #[.int .u64 sn, .string is, .string su, .slice ka kn kc, .slice xa n xc, .slice sa sl sc], .int .i64 z] w (ItmIs 134 0 [] .nil w) := by
  have hb := ((Below.refl _ w).alloc (Nat.le_refl _) (.cells #[.int .u64 sn, .string is, .string su, .slice ka kn kc, .slice xa n xc, .slice sa sl sc] 55)).alloc (by simp) (.cells #[.int .u8 0, .slice none 0 0, .slice none 0 0] 25)
  have H00 := Lib.hid hb
  have HSZ := Lib.hid (show w.heap.size + 2 ≤ ((w.alloc (.cells #[.int .u64 sn, .string is, .string su, .slice ka kn kc, .slice xa n xc, .slice sa sl sc] 55)).alloc (.cells #[.int .u8 0, .slice none 0 0, .slice none 0 0] 25)).heap.size by simp)
  have HBX := Lib.hid ((Blk.new w 55 [.int .u64 sn, .string is, .string su, .slice ka kn kc, .slice xa n xc, .slice sa sl sc]).alloc (.cells #[.int .u8 0, .slice none 0 0, .slice none 0 0] 25))
  have HRS := Lib.hid (Blk.new2 w (.cells #[.int .u64 sn, .string is, .string su, .slice ka kn kc, .slice xa n xc, .slice sa sl sc] 55) 25 [.int .u8 0, .slice none 0 0, .slice none 0 0])
  have HF := Lib.hid (hF _ hb)
  have hb0 := built25
  have HD := Lib.hid (fun (W : World) (a : Option Addr) (m c : Nat) (hin : BIn W a m c x.2.2) => rdec_x hD hin)
  have hy := decx_ne hD
  have hyb : ((y : Int) != 0) = true := by simp; omega
  have hyi : ¬ (y : Int) = 0 := by omega
  clear hD hy
  clear hb hF
  go_enter Try.func78, Try.ntmps78
  generalize hW0 : (w.alloc (.cells #[.int .u64 sn, .string is, .string su, .slice ka kn kc, .slice xa n xc, .slice sa sl sc] 55)).alloc (.cells #[.int .u8 0, .slice none 0 0, .slice none 0 0] 25) = W0 at *
  go_wp2_with (first | (refine wpList_load_row (P := Try.prog) rfl 55 (.tmp 2) rfl w.heap.size rfl 55 _ _ _ HBX.out Try.underlying55 rfl info55 ?_) | (go_at_call 39; go_loud ((with_reducible refine HF.out.mono ?_); rintro e w2 ⟨a3, m3, c3, hm3, rfl, hbi3, hb2⟩; have HBI := Lib.hid hbi3; have H02 := Lib.hid (H00.out.trans (hb2.mono H00.out.size)); have HS2 := Lib.hid (show w.heap.size + 2 ≤ w2.heap.size by { have h1 := hb2.size; have h2 := HSZ.out; omega }); have HRS := Lib.hid (HRS.out.below' hb2); clear hb2 hbi3 hm3)) | (refine wpList_store_row (P := Try.prog) rfl 65 (.tmp 6) (.tmp 14) rfl w2.heap.size #[.int .i64 x.1, .bool x.2.1, .slice a3 m3 c3] rfl rfl 65 _ (Blk.new w2 65 [.int .i64 0, .bool false, .slice none 0 0]) info65 rfl (all_ext _ _ _ _ _) ?_; go_loud (have hb3 : Gr w2 ((w2.alloc (.cells #[.int .i64 0, .bool false, .slice none 0 0] 65)).setRow w2.heap.size #[.int .i64 x.1, .bool x.2.1, .slice a3 m3 c3]) := below_setRow' (Gr.alloc w2 _) (Nat.le_refl _) _; have HE := Lib.hid ((Blk.new w2 65 [.int .i64 0, .bool false, .slice none 0 0]).setRow [.int .i64 x.1, .bool x.2.1, .slice a3 m3 c3]); have H03 := Lib.hid (H02.out.trans (Below.mono hb3 H02.out.size)); have HRS := Lib.hid (HRS.out.below' hb3); have HBI := Lib.hid (HBI.out.below hb3); have HS3 := Lib.hid (show w.heap.size + 2 ≤ ((w2.alloc (.cells #[.int .i64 0, .bool false, .slice none 0 0] 65)).setRow w2.heap.size #[.int .i64 x.1, .bool x.2.1, .slice a3 m3 c3]).heap.size by { have h1 := hb3.size; have h2 := HS2.out; omega }); clear hb3; generalize (w2.alloc (.cells #[.int .i64 0, .bool false, .slice none 0 0] 65)).setRow w2.heap.size #[.int .i64 x.1, .bool x.2.1, .slice a3 m3 c3] = w3 at *; have k5 := blkc HE.out (i := 2) rfl)) | (go_at_call 9; go_loud ((with_reducible refine (HD.out _ _ _ _ HBI.out).mono ?_); rintro e w4 ⟨rfl, hb4⟩; have H04 := Lib.hid (H03.out.trans (Below.mono hb4 H03.out.size)); have HRS := Lib.hid (HRS.out.below' hb4); have HS4 := Lib.hid (show w.heap.size + 2 ≤ w4.heap.size by { have h1 := Below.size hb4; have h2 := HS3.out; omega }); clear hb4)) | (refine wpList_store_row (P := Try.prog) rfl 25 (.tmp 8) (.tmp 23) rfl w4.heap.size #[.int .u8 0, .slice none 0 0, .slice none 0 0] rfl rfl 25 _ (Blk.new w4 25 [.int .u8 0, .slice none 0 0, .slice none 0 0]) info25 rfl (all_item _ _ _ _ _ _ _) ?_; go_loud (have hb5 : Gr w4 ((w4.alloc (.cells #[.int .u8 0, .slice none 0 0, .slice none 0 0] 25)).setRow w4.heap.size #[.int .u8 0, .slice none 0 0, .slice none 0 0]) := below_setRow' (Gr.alloc w4 _) (Nat.le_refl _) _; have HX := Lib.hid ((Blk.new w4 25 [.int .u8 0, .slice none 0 0, .slice none 0 0]).setRow [.int .u8 0, .slice none 0 0, .slice none 0 0]); have H05 := Lib.hid (H04.out.trans (Below.mono hb5 H04.out.size)); have HRS := Lib.hid (HRS.out.below' hb5); clear hb5; generalize (w4.alloc (.cells #[.int .u8 0, .slice none 0 0, .slice none 0 0] 25)).setRow w4.heap.size #[.int .u8 0, .slice none 0 0, .slice none 0 0] = w5 at *)) | (refine wpList_store_row (P := Try.prog) rfl 25 (.tmp 4) (.tmp 27) rfl (w.heap.size + 1) #[.int .u8 0, .slice none 0 0, .slice none 0 0] rfl rfl 25 _ HRS.out info25 rfl (all_item _ _ _ _ _ _ _) ?_))
  refine bodyPost_ret (results_two Try.results78 _ _ (w.heap.size + 1) 25 _ (0, 0) _ _ rfl rfl (HRS.out.setRow [.int .u8 0, .slice none 0 0, .slice none 0 0]) Try.underlying25 rfl info25) rfl ?_
  exact itm_zero 134 (below_setRow' H05.out (by omega) _)

set_option maxRecDepth 100000 in
set_option maxHeartbeats 4000000 in
theorem refItem_none (w : World) (sn : Int) (is su : ByteArray) (ka : Option Addr) (kn kc : Nat) (xa : Option Addr) (n xc : Nat) (sa : Option Addr) (sl sc : Nat) (z : Int) (hF : ∀ W : World, Below w.heap.size w W → Calls Try.prog 39 #[.agg #[.int .u64 sn, .string is, .string su, .slice ka kn kc, .slice xa n xc, .slice sa sl sc], .int .i64 z] W (NoneX W)) : Calls Try.prog 78 #[.agg #[.int .u64 sn, .string is, .string su, .slice ka kn kc, .slice xa n xc, .slice sa sl sc], .int .i64 z] w (ItmIs 131 0 [] .nil w) := by
  have hb := ((Below.refl _ w).alloc (Nat.le_refl _) (.cells #[.int .u64 sn, .string is, .string su, .slice ka kn kc, .slice xa n xc, .slice sa sl sc] 55)).alloc (by simp) (.cells #[.int .u8 0, .slice none 0 0, .slice none 0 0] 25)
  have H00 := Lib.hid hb
  have HSZ := Lib.hid (show w.heap.size + 2 ≤ ((w.alloc (.cells #[.int .u64 sn, .string is, .string su, .slice ka kn kc, .slice xa n xc, .slice sa sl sc] 55)).alloc (.cells #[.int .u8 0, .slice none 0 0, .slice none 0 0] 25)).heap.size by simp)
  have HBX := Lib.hid ((Blk.new w 55 [.int .u64 sn, .string is, .string su, .slice ka kn kc, .slice xa n xc, .slice sa sl sc]).alloc (.cells #[.int .u8 0, .slice none 0 0, .slice none 0 0] 25))
  have HRS := Lib.hid (Blk.new2 w (.cells #[.int .u64 sn, .string is, .string su, .slice ka kn kc, .slice xa n xc, .slice sa sl sc] 55) 25 [.int .u8 0, .slice none 0 0, .slice none 0 0])
  have HF := Lib.hid (hF _ hb)
  have hb0 := built25
  clear hb hF
  go_enter Try.func78, Try.ntmps78
  generalize hW0 : (w.alloc (.cells #[.int .u64 sn, .string is, .string su, .slice ka kn kc, .slice xa n xc, .slice sa sl sc] 55)).alloc (.cells #[.int .u8 0, .slice none 0 0, .slice none 0 0] 25) = W0 at *
  go_wp2_with (first | (refine wpList_load_row (P := Try.prog) rfl 55 (.tmp 2) rfl w.heap.size rfl 55 _ _ _ HBX.out Try.underlying55 rfl info55 ?_) | (go_at_call 39; go_loud ((with_reducible refine HF.out.mono ?_); rintro e w2 ⟨rfl, hb2⟩; have H02 := Lib.hid (H00.out.trans (hb2.mono H00.out.size)); have HRS := Lib.hid (HRS.out.below' hb2); clear hb2)) | (refine wpList_store_row (P := Try.prog) rfl 65 (.tmp 6) (.tmp 14) rfl w2.heap.size #[.int .i64 0, .bool false, .slice none 0 0] rfl rfl 65 _ (Blk.new w2 65 [.int .i64 0, .bool false, .slice none 0 0]) info65 rfl (all_ext _ _ _ _ _) ?_; go_loud (have hb3 : Gr w2 ((w2.alloc (.cells #[.int .i64 0, .bool false, .slice none 0 0] 65)).setRow w2.heap.size #[.int .i64 0, .bool false, .slice none 0 0]) := below_setRow' (Gr.alloc w2 _) (Nat.le_refl _) _; have H03 := Lib.hid (H02.out.trans (Below.mono hb3 H02.out.size)); have HRS := Lib.hid (HRS.out.below' hb3); clear hb3; generalize (w2.alloc (.cells #[.int .i64 0, .bool false, .slice none 0 0] 65)).setRow w2.heap.size #[.int .i64 0, .bool false, .slice none 0 0] = w3 at *)) | (refine wpList_store_row (P := Try.prog) rfl 25 (.tmp 4) (.tmp 18) rfl (w.heap.size + 1) #[.int .u8 0, .slice none 0 0, .slice none 0 0] rfl rfl 25 _ HRS.out info25 rfl (all_item _ _ _ _ _ _ _) ?_))
  refine bodyPost_ret (results_two Try.results78 _ _ (w.heap.size + 1) 25 _ (0, 0) _ _ rfl rfl (HRS.out.setRow [.int .u8 0, .slice none 0 0, .slice none 0 0]) Try.underlying25 rfl info25) rfl ?_
  exact itm_zero 131 (below_setRow' H03.out (by omega) _)

/-- both sides answer the same about an extension's item -/
theorem item_both (xs : List XV) (z : Int) : ∃ (er t : Nat) (b : List Nat) (k : Tr),
    (∀ (w : World) (sn : Int) (is su : ByteArray) (ka : Option Addr) (kn kc : Nat) (xa : Option Addr) (n xc : Nat) (sa : Option Addr) (sl sc : Nat), XIn w xa n xc xs → Calls Try.prog 76 #[.agg #[.int .u64 sn, .string is, .string su, .slice ka kn kc, .slice xa n xc, .slice sa sl sc], .int .i64 z] w (ItmIs er t b k w)) ∧
    (∀ (w : World) (sn : Int) (is su : ByteArray) (ka : Option Addr) (kn kc : Nat) (xa : Option Addr) (n xc : Nat) (sa : Option Addr) (sl sc : Nat), XIn w xa n xc xs → Calls Try.prog 78 #[.agg #[.int .u64 sn, .string is, .string su, .slice ka kn kc, .slice xa n xc, .slice sa sl sc], .int .i64 z] w (ItmIs er t b k w)) := by
  rcases first_or xs z with ⟨i, x, hf⟩ | hn
  · cases hD : decE x.2.2 with
    | error y =>
      refine ⟨134, 0, [], .nil, fun w sn is su ka kn kc xa n xc sa sl sc hin => itemOf_bad w sn is su ka kn kc xa n xc sa sl sc z x (fun W hW => (Find_found W sn is su ka kn kc xa n xc sa sl sc xs z i x hf (hin.below hW)).mono fun e w' h => h.seen) hD, fun w sn is su ka kn kc xa n xc sa sl sc hin => refItem_bad w sn is su ka kn kc xa n xc sa sl sc z x (fun W hW => refFind_found W sn is su ka kn kc xa n xc sa sl sc xs z i x hf (hin.below hW)) hD⟩
    | ok q =>
      obtain ⟨t, b, k⟩ := q
      refine ⟨0, t, b, k, fun w sn is su ka kn kc xa n xc sa sl sc hin => itemOf_ok w sn is su ka kn kc xa n xc sa sl sc z x (fun W hW => (Find_found W sn is su ka kn kc xa n xc sa sl sc xs z i x hf (hin.below hW)).mono fun e w' h => h.seen) hD, fun w sn is su ka kn kc xa n xc sa sl sc hin => refItem_ok w sn is su ka kn kc xa n xc sa sl sc z x (fun W hW => refFind_found W sn is su ka kn kc xa n xc sa sl sc xs z i x hf (hin.below hW)) hD⟩
  · exact ⟨131, 0, [], .nil, fun w sn is su ka kn kc xa n xc sa sl sc hin => itemOf_none w sn is su ka kn kc xa n xc sa sl sc z (fun W hW => Find_none W sn is su ka kn kc xa n xc sa sl sc xs z hn (hin.below hW)), fun w sn is su ka kn kc xa n xc sa sl sc hin => refItem_none w sn is su ka kn kc xa n xc sa sl sc z (fun W hW => refFind_none W sn is su ka kn kc xa n xc sa sl sc xs z hn (hin.below hW))⟩
end Go.Proofs.Ytbabpmncdphnjaa
