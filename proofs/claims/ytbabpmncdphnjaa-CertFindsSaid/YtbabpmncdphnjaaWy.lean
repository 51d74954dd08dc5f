/- What a deferred closure of this layer does: recover and lay the error, or nothing. No condition. -/
import Derived.Test.YtbabpmncdphnjaaRa
import Derived.Recover
namespace Go.Proofs.Ytbabpmncdphnjaa
open Go.RowKit
set_option linter.unusedVariables false
set_option maxRecDepth 100000

theorem assert26 (c : Int) (w : World) : (Instr.typeAssert (.iface 26 (.int .i64 c)) 20 26 false).run Try.prog w = .ok (.int .i64 c) w := by kernel_rfl
theorem why_any (c : Int) (w : World) : Calls Try.prog 48 #[.iface 26 (.int .i64 c)] w fun e w' => e = .returned (.int .i64 c) ∧ w = w' := by
  have h := assert26 c
  go_enter Try.func48, Try.ntmps48
  go_wp2
  go_ret
  exact ⟨rfl, rfl⟩
set_option maxHeartbeats 2000000 in
theorem catchD (p q : Nat) (c : Int) (ti : Array Value) (tq : TypeId) (x : Int) (w : World) (hne : p ≠ q) (hp : w.heap[p]? = some (.cells ti 25 (0, 0))) (hpz : ti.size = 3) (hq : Blk w q 26 [.int .i64 x]) :
    CallsD Try.prog 47 #[.pointer (some ⟨p, 0, none⟩), .pointer (some ⟨q, 0, none⟩)] (.panicking [{ v := .iface 26 (.int .i64 c), recovered := false }]) w fun e u' w' =>
      e = .returned (.tuple #[]) ∧ u' = .panicking [{ v := .iface 26 (.int .i64 c), recovered := true }] ∧ w' = (w.setRow p #[.int .u8 0, .slice none 0 0, .slice none 0 0]).setCell ⟨q, 0, none⟩ (.int .i64 c) := by
  have hz : q < w.heap.size := hq.lt
  refine callsD_of_wpS Try.func47 rfl fun c₀ cs hu => ?_
  apply wpS_seq
  apply wpS_region
  simp [wpOpsS, go_sem, recoverD, hu, Try.ntmps47, Exit.thenS]
  refine wpS_of_wp ?_
  have e1 : (#[Value.pointer (some { block := p, off := 0 }), Value.pointer (some { block := q, off := 0 })] ++
          ((Array.replicate 7 undef).setIfInBounds 1 (Value.iface 26 (Value.int IntKind.i64 c))).setIfInBounds 0
            (Value.iface 26 (Value.int IntKind.i64 c))) = #[Value.pointer (some { block := p, off := 0 }), Value.pointer (some { block := q, off := 0 }), (Value.iface 26 (Value.int IntKind.i64 c)), (Value.iface 26 (Value.int IntKind.i64 c)), undef, undef, undef, undef, undef] := rfl
  rw [e1]
  have hb0 : Try.prog.built 25 [] = some #[.int .u8 0, .slice none 0 0, .slice none 0 0] := by kernel_rfl
  have HP := Lib.hid hp
  have HQ := Lib.hid (hq.row #[.int .u8 0, .slice none 0 0, .slice none 0 0] (Ne.symm hne))
  have hq1 := (HQ.out).cell 0
  have hq2 := (HQ.out).free 0
  clear hp hq
  generalize hQ : (bodyPostS Try.prog Try.f47 c₀ cs fun e u' w' => _) = QQ
  have HQQ := Lib.hid hQ
  clear hQ
  go_wp2_with (first | (go_at_call 48; refine (why_any c _).mono ?_; rintro e w' ⟨rfl, rfl⟩) | (refine wpList_store_row (P := Try.prog) rfl 25 (.tmp 0) (.tmp 6) rfl p #[.int .u8 0, .slice none 0 0, .slice none 0 0] rfl rfl 25 _ HP.out info25 hpz (all_item _ _ _ _ _ _ _) ?_))
  rw [← HQQ.out]
  exact ⟨rfl, _, rfl, .tuple #[], by simp [results, Try.results47], rfl, rfl, rfl⟩
theorem idleD (p q : Addr) (w : World) :
    CallsD Try.prog 47 #[.pointer (some p), .pointer (some q)] .returning w fun e u' w' => e = .returned (.tuple #[]) ∧ u' = .returning ∧ w = w' := by
  refine callsD_of_wpS Try.func47 rfl fun c₀ cs hu => ?_
  apply wpS_seq
  apply wpS_region
  simp [wpOpsS, go_sem, recoverD, hu, Try.ntmps47, Exit.thenS]
  refine wpS_of_wp ?_
  generalize hQ : (bodyPostS Try.prog Try.f47 c₀ cs fun e u' w' => _) = QQ
  have HQQ := Lib.hid hQ
  clear hQ
  have e1 : (#[Value.pointer (some p), Value.pointer (some q)] ++ ((Array.replicate 7 undef).setIfInBounds 1 Value.nilIface).setIfInBounds 0 Value.nilIface) = #[Value.pointer (some p), Value.pointer (some q), Value.nilIface, Value.nilIface, undef, undef, undef, undef, undef] := rfl
  rw [e1]
  go_wp2
  rw [← HQQ.out]
  exact ⟨rfl, c₀.mode, rfl, .tuple #[], by simp [results, Try.results47], rfl, hu, rfl⟩
theorem resD (tmps : Array Value) (p q : Nat) (cs : Array Value) (x : Int) (w : World) (h2 : tmps.getD 2 undef = .pointer (some ⟨p, 0, none⟩)) (h3 : tmps.getD 3 undef = .pointer (some ⟨q, 0, none⟩)) (hp : w.heap[p]? = some (.cells cs 25 (0, 0))) (hc : cs.size = 3) (hq : Blk w q 26 [.int .i64 x]) :
    (results Try.f10 tmps).run Try.prog w = .ok (.tuple #[.agg cs, .int .i64 x]) w := by
  have h2' : tmps[2]?.getD undef = .pointer (some ⟨p, 0, none⟩) := by simpa using h2
  have h3' : tmps[3]?.getD undef = .pointer (some ⟨q, 0, none⟩) := by simpa using h3
  have hq1 := hq.cell 0
  simp at hq1
  have hl := run_loadVar_row (P := Try.prog) w p 25 25 cs (0, 0) _ hp Try.underlying25 rfl (by rw [info25, hc])
  have hl2 : (loadVar 26 ⟨q, 0, none⟩).run Try.prog w = .ok (.int .i64 x) w := by simp [go_sem, hq1]
  simp [results, Try.results10, h2', h3', asAddr, hl, hl2]

/-- what Decode answers -/
def DecIs (R : Except Nat (Nat × List Nat × Tr)) (w : World) (e : Ending) (w' : World) : Prop :=
  Below w.heap.size w w' ∧ match R with
  | .error c => e = .returned (.tuple #[.agg #[.int .u8 0, .slice none 0 0, .slice none 0 0], .int .i64 (c : Nat)])
  | .ok (t, b, k) => ∃ v1 v2 L, e = .returned (.tuple #[.agg #[.int .u8 (t : Nat), v1, v2], .int .i64 0]) ∧ OwnV w' w.heap.size (.node t b k .nil) [.int .u8 (t : Nat), v1, v2] L ∧ L.Nodup
theorem dec_long {l : List Nat} (h : 65536 < l.length) : decE l = .error 121 := by simp [decE, h]
theorem dec_bad {l : List Nat} {c : Nat} (h : ¬ 65536 < l.length) (h1 : rd (l.length + 1) 1 l = .error c) : decE l = .error c := by simp [decE, h, h1]
theorem dec_more {l : List Nat} {t b k r} (h : ¬ 65536 < l.length) (h1 : rd (l.length + 1) 1 l = .ok (t, b, k, r)) (h2 : r ≠ []) : decE l = .error 126 := by simp [decE, h, h1, h2]
theorem dec_good {l : List Nat} {t b k} (h : ¬ 65536 < l.length) (h1 : rd (l.length + 1) 1 l = .ok (t, b, k, [])) : decE l = .ok (t, b, k) := by simp [decE, h, h1]

theorem exitD_bad {R : Ending → World → Prop} {tmps : Array Value} (p q : Nat) (c : Int) (ti : List Value) (x : Int) (wx : World) (hne : p ≠ q) (hp : Blk wx p 25 ti) (hpz : ti.length = 3) (hq : Blk wx q 26 [.int .i64 x])
    (h2 : tmps.getD 2 undef = .pointer (some ⟨p, 0, none⟩)) (h3 : tmps.getD 3 undef = .pointer (some ⟨q, 0, none⟩))
    (hR : R (.returned (.tuple #[.agg #[.int .u8 0, .slice none 0 0, .slice none 0 0], .int .i64 c])) ((wx.setRow p #[.int .u8 0, .slice none 0 0, .slice none 0 0]).setCell ⟨q, 0, none⟩ (.int .i64 c))) :
    bodyPostD Try.prog Try.f10 R (Exit.panic [{ v := .iface 26 (.int .i64 c), recovered := false }]) { tmps := tmps, defers := [{ target := Target.fn (Fn.func 47) #[.pointer (some ⟨p, 0, none⟩), .pointer (some ⟨q, 0, none⟩)], args := #[] }] } wx := by
  refine leaves_cons (f := 47) (args := #[.pointer (some ⟨p, 0, none⟩), .pointer (some ⟨q, 0, none⟩)]) (by simp) (by simp [go_sem]) ?_
  refine (catchD p q c _ 0 x _ hne hp (by simpa using hpz) hq).mono ?_
  rintro e u' w'' ⟨rfl, rfl, rfl⟩
  have hp2 := (hp.setRow [.int .u8 0, .slice none 0 0, .slice none 0 0]).other ⟨q, 0, none⟩ (.int .i64 c) hne
  have hq2 := (hq.row #[.int .u8 0, .slice none 0 0, .slice none 0 0] (Ne.symm hne)).set 0 (.int .i64 c)
  exact ⟨_, resD tmps p q _ c _ h2 h3 hp2 rfl hq2, hR⟩
theorem exitD_good {R : Ending → World → Prop} {tmps : Array Value} (p q : Nat) (ti : List Value) (x : Int) (wx : World) (hp : Blk wx p 25 ti) (hpz : ti.length = 3) (hq : Blk wx q 26 [.int .i64 x])
    (h2 : tmps.getD 2 undef = .pointer (some ⟨p, 0, none⟩)) (h3 : tmps.getD 3 undef = .pointer (some ⟨q, 0, none⟩))
    (hR : R (.returned (.tuple #[.agg ti.toArray, .int .i64 x])) wx) :
    bodyPostD Try.prog Try.f10 R Exit.ret { tmps := tmps, defers := [{ target := Target.fn (Fn.func 47) #[.pointer (some ⟨p, 0, none⟩), .pointer (some ⟨q, 0, none⟩)], args := #[] }] } wx := by
  refine leaves_cons (f := 47) (args := #[.pointer (some ⟨p, 0, none⟩), .pointer (some ⟨q, 0, none⟩)]) (by simp) (by simp [go_sem]) ?_
  refine (idleD _ _ _).mono ?_
  rintro e u' w'' ⟨rfl, rfl, rfl⟩
  exact ⟨_, resD tmps p q _ x _ h2 h3 hp (by simpa using hpz) hq, hR⟩

theorem DecIs.err {R : Except Nat (Nat × List Nat × Tr)} {w w' : World} {c : Nat} (h : R = .error c) (hb : Below w.heap.size w w') : DecIs R w (.returned (.tuple #[.agg #[.int .u8 0, .slice none 0 0, .slice none 0 0], .int .i64 (c : Nat)])) w' := by
  subst h; exact ⟨hb, rfl⟩
theorem DecIs.good {R : Except Nat (Nat × List Nat × Tr)} {w w' : World} {t : Nat} {b : List Nat} {k : Tr} (h : R = .ok (t, b, k)) (hb : Below w.heap.size w w') {v1 v2 : Value} {L : List Nat} (h1 : OwnV w' w.heap.size (.node t b k .nil) [.int .u8 (t : Nat), v1, v2] L) (h2 : L.Nodup) :
    DecIs R w (.returned (.tuple #[.agg #[.int .u8 (t : Nat), v1, v2], .int .i64 0])) w' := by
  subst h; exact ⟨hb, v1, v2, L, rfl, h1, h2⟩
theorem below_two {w wx : World} (hb : Below w.heap.size w wx) (cs : Array Value) (v : Value) : Below w.heap.size w ((wx.setRow w.heap.size cs).setCell ⟨w.heap.size + 1, 0, none⟩ v) :=
  (below_setRow' hb (Nat.le_refl _) cs).grown (grown_setCell _ _ v) (by have := hb.size; simpa using this) (fun k hk => by injection hk with hk; simp at hk; omega)
set_option maxRecDepth 100000 in
set_option maxHeartbeats 4000000 in
theorem Decode_any (l : List Nat) (w : World) (a : Option Addr) (n c : Nat) (hin : BIn w a n c l) : Calls Try.prog 10 #[.slice a n c] w (DecIs (decE l) w) := by
  have hmf : ∀ (fn : Fn) (first cap : Array Value) (w : World), (Instr.makeFunc fn first cap).run Try.prog w = .ok (.func fn first cap) w := fun _ _ _ _ => rfl
  have hn : l.length = n := hin.1.1
  have B0 := Blk.new w 25 [.int .u8 0, .slice none 0 0, .slice none 0 0]
  have B1 := (B0.alloc (.cells #[.int .i64 0] 26))
  have B2 := Blk.new2 w (.cells #[.int .u8 0, .slice none 0 0, .slice none 0 0] 25) 26 [.int .i64 0]
  have hbel : Below w.heap.size w ((w.alloc (.cells #[.int .u8 0, .slice none 0 0, .slice none 0 0] 25)).alloc (.cells #[.int .i64 0] 26)) := ((Below.refl _ w).alloc (Nat.le_refl _) _).alloc (by simp) _
  by_cases hlong : 65536 < l.length
  · have hli : ¬ (n : Int) ≤ 65536 := by omega
    have HI := Lib.hid hin
    have H1 := Lib.hid B1
    have H2 := Lib.hid B2
    clear hin B0 B1 B2
    go_enter_defers Try.func10, Try.ntmps10
    go_wp2_with (first | (go_at_call 49; refine (must_t (by first | (simp; omega) | (simp; done) | rfl) _ _).mono ?_; rintro e w' ⟨rfl, rfl⟩) | (go_at_call 49; refine (must_f (by first | (simp; omega) | (simp; done) | rfl) _ _).mono ?_; rintro e w' ⟨rfl, rfl⟩))
    exact exitD_bad w.heap.size (w.heap.size + 1) 121 _ _ _ (by omega) H1.out rfl H2.out rfl rfl (DecIs.err (dec_long hlong) (below_two hbel _ _))
  · have hli : (n : Int) ≤ 65536 := by omega
    have hC := read_any 1 l _ a n c (by omega) (by omega) (hin.below hbel)
    have HBEL := Lib.hid hbel
    have hs0 : (((w.alloc (.cells #[.int .u8 0, .slice none 0 0, .slice none 0 0] 25)).alloc (.cells #[.int .i64 0] 26))).heap.size = w.heap.size + 2 := by simp
    have HS := Lib.hid hs0
    clear hin B0 hbel hs0
    cases hR : rd (l.length + 1) 1 l with
    | error x =>
      rw [hR] at hC
      have HC := Lib.hid (rd_bad rfl hC)
      have HR := Lib.hid hR
      have H1 := Lib.hid B1
      have H2 := Lib.hid B2
      clear hR hC B1 B2
      go_enter_defers Try.func10, Try.ntmps10
      go_wp2_with (first | (go_at_call 49; refine (must_t (by first | (simp; omega) | (simp; done) | rfl) _ _).mono ?_; rintro e w' ⟨rfl, rfl⟩) | (go_at_call 50; refine HC.out.mono ?_; rintro e w2 ⟨rfl, hb2⟩))
      exact exitD_bad w.heap.size (w.heap.size + 1) x _ _ _ (by omega) (H1.out.below' hb2) rfl (H2.out.below' hb2) rfl rfl (DecIs.err (dec_bad hlong HR.out) (below_two (HBEL.out.trans (hb2.mono HBEL.out.size)) _ _))
    | ok y =>
      obtain ⟨t, b, k, r⟩ := y
      rw [hR] at hC
      have HC := Lib.hid (rd_good rfl hC)
      have HR := Lib.hid hR
      have H1 := Lib.hid B1
      have H2 := Lib.hid B2
      clear hR hC B1 B2
      by_cases hr : r = []
      · subst hr
        go_enter_defers Try.func10, Try.ntmps10
        go_wp2_with (first | (go_at_call 49; refine (must_t (by first | (simp; omega) | (simp; done) | rfl) _ _).mono ?_; rintro e w' ⟨rfl, rfl⟩) | (go_at_call 50; refine HC.out.mono ?_; rintro e w2 ⟨v1, v2, ar, cr, L, rfl, hV2, hN2, hbr, hB1, hb2⟩; obtain ⟨a1, c1, a2, c2, _, rfl, rfl, hit⟩ := hV2.item; have HV2 := Lib.hid hV2; have HN2 := Lib.hid hN2; have D1 := Lib.hid (H1.out.below' hb2); have D2 := Lib.hid (H2.out.below' hb2); clear hV2 hN2 hbr hit hB1) | (refine wpList_store_row (P := Try.prog) rfl 25 (.tmp 2) (.tmp 13) rfl w.heap.size #[.int .u8 (t : Nat), .slice a1 b.length c1, .slice a2 k.len c2] rfl rfl 25 _ D1.out info25 rfl (all_item _ _ _ _ _ _ _) ?_; have D3 := Lib.hid (D1.out.setRow [.int .u8 (t : Nat), .slice a1 b.length c1, .slice a2 k.len c2]); have D4 := Lib.hid (D2.out.row #[.int .u8 (t : Nat), .slice a1 b.length c1, .slice a2 k.len c2] (show w.heap.size + 1 ≠ w.heap.size by omega))) | (refine wpList_load_row (P := Try.prog) rfl 25 (.tmp 2) rfl w.heap.size rfl 25 _ _ _ D3.out Try.underlying25 rfl info25 ?_) | (refine wpList_store_row (P := Try.prog) rfl 25 (.tmp 2) (.tmp 19) rfl w.heap.size #[.int .u8 (t : Nat), .slice a1 b.length c1, .slice a2 k.len c2] rfl rfl 25 _ D3.out info25 rfl (all_item _ _ _ _ _ _ _) ?_; have D5 := Lib.hid (D3.out.setRow [.int .u8 (t : Nat), .slice a1 b.length c1, .slice a2 k.len c2]); have D6 := Lib.hid (D4.out.row #[.int .u8 (t : Nat), .slice a1 b.length c1, .slice a2 k.len c2] (show w.heap.size + 1 ≠ w.heap.size by omega)); have q1 := D6.out.cell 0; have q2 := D6.out.free 0; simp at q1))
        have hb22 : Below w.heap.size w w2 := HBEL.out.trans (hb2.mono HBEL.out.size)
        have hb9 := below_two (below_setRow' hb22 (Nat.le_refl _) #[.int .u8 (t : Nat), .slice a1 b.length c1, .slice a2 k.len c2]) #[.int .u8 (t : Nat), .slice a1 b.length c1, .slice a2 k.len c2] (.int .i64 0)
        have hlt := HV2.out.lt
        rw [HS.out] at hlt
        have hV := (HV2.out.keep (w' := ((w2.setRow w.heap.size #[.int .u8 (t : Nat), .slice a1 b.length c1, .slice a2 k.len c2]).setRow w.heap.size #[.int .u8 (t : Nat), .slice a1 b.length c1, .slice a2 k.len c2]).setCell ⟨w.heap.size + 1, 0, none⟩ (.int .i64 0)) (fun g hg => by
          have h1 := (hlt g hg).1
          rw [heap_setCell_other _ _ g _ (by simp; omega), setRow_other _ w.heap.size g _ (by omega), setRow_other _ w.heap.size g _ (by omega)])).mono (base' := w.heap.size) (by rw [HS.out]; omega)
        exact exitD_good w.heap.size (w.heap.size + 1) _ 0 _ (D5.out.other _ _ (by simp)) rfl (D6.out.set 0 (.int .i64 0)) rfl rfl (DecIs.good (dec_good hlong HR.out) hb9 hV HN2.out)
      · have hr0 : r.length ≠ 0 := fun h => hr (List.eq_nil_of_length_eq_zero h)
        go_enter_defers Try.func10, Try.ntmps10
        go_wp2_with (first | (go_at_call 49; refine (must_t (by first | (simp; omega) | (simp; done) | rfl) _ _).mono ?_; rintro e w' ⟨rfl, rfl⟩) | (go_at_call 50; refine HC.out.mono ?_; rintro e w2 ⟨v1, v2, ar, cr, L, rfl, hV2, hN2, hbr, hB1, hb2⟩; obtain ⟨a1, c1, a2, c2, _, rfl, rfl, hit⟩ := hV2.item; have HV2 := Lib.hid hV2; have HN2 := Lib.hid hN2; have D1 := Lib.hid (H1.out.below' hb2); have D2 := Lib.hid (H2.out.below' hb2); clear hV2 hN2 hbr hit hB1) | (refine wpList_store_row (P := Try.prog) rfl 25 (.tmp 2) (.tmp 13) rfl w.heap.size #[.int .u8 (t : Nat), .slice a1 b.length c1, .slice a2 k.len c2] rfl rfl 25 _ D1.out info25 rfl (all_item _ _ _ _ _ _ _) ?_; have D3 := Lib.hid (D1.out.setRow [.int .u8 (t : Nat), .slice a1 b.length c1, .slice a2 k.len c2]); have D4 := Lib.hid (D2.out.row #[.int .u8 (t : Nat), .slice a1 b.length c1, .slice a2 k.len c2] (show w.heap.size + 1 ≠ w.heap.size by omega))) | (go_at_call 49; refine (must_f (by first | (simp; omega) | (simp; done) | rfl) _ _).mono ?_; rintro e w' ⟨rfl, rfl⟩))
        exact exitD_bad w.heap.size (w.heap.size + 1) 126 _ _ _ (by omega) D3.out rfl D4.out rfl rfl (DecIs.err (dec_more hlong HR.out hr) (below_two (below_setRow' (HBEL.out.trans (hb2.mono HBEL.out.size)) (Nat.le_refl _) _) _ _))
end Go.Proofs.Ytbabpmncdphnjaa
