/- Parts of proofs of statements, each text behind those that it stands on. No condition of its own. -/
import Derived.Deep.CutRange
import Derived.Test.YtbabpmncdphnjaaGreatQ17
namespace Go.Proofs.YtbabpmncdphnjaaGreat
open Go.RowKit
set_option linter.unusedVariables false
set_option maxRecDepth 100000
set_option linter.unusedSimpArgs false
theorem built55 : Tryz.prog.built 26 [] = some #[.int .u64 0, .string { data := #[] }, .string { data := #[] }, .slice none 0 0, .slice none 0 0, .slice none 0 0] := by kernel_rfl
set_option maxHeartbeats 2000000 in
theorem catchP (p q r : Nat) (c : Int) (ti : List Value) (v0 : Value) (x : Int) (w : World) (h1 : p ≠ q) (h2 : p ≠ r) (h3 : q ≠ r) (hp : Blk w p 26 ti) (hpz : ti.length = 6) (hq : Blk w q 22 [v0]) (hr : Blk w r 27 [.int .i64 x]) :
    CallsD Tryz.prog 30 #[.pointer (some ⟨p, 0, none⟩), .pointer (some ⟨q, 0, none⟩), .pointer (some ⟨r, 0, none⟩)] (.panicking [{ v := .iface 27 (.int .i64 c), recovered := false }]) w fun e u' w' =>
      e = .returned (.tuple #[]) ∧ u' = .panicking [{ v := .iface 27 (.int .i64 c), recovered := true }] ∧ w' = ((w.setRow p #[.int .u64 0, .string { data := #[] }, .string { data := #[] }, .slice none 0 0, .slice none 0 0, .slice none 0 0]).setCell ⟨q, 0, none⟩ (.slice none 0 0)).setCell ⟨r, 0, none⟩ (.int .i64 c) := by
  refine callsD_of_wpS Tryz.func30 rfl fun c₀ cs hu => ?_
  apply wpS_seq
  apply wpS_region
  simp [wpOpsS, go_sem, recoverD, hu, Tryz.ntmps30, Exit.thenS]
  refine wpS_of_wp ?_
  have e1 : (#[Value.pointer (some { block := p, off := 0 }), Value.pointer (some { block := q, off := 0 }), Value.pointer (some { block := r, off := 0 })] ++
          ((Array.replicate 7 undef).setIfInBounds 1 (Value.iface 27 (Value.int IntKind.i64 c))).setIfInBounds 0
            (Value.iface 27 (Value.int IntKind.i64 c))) = #[Value.pointer (some { block := p, off := 0 }), Value.pointer (some { block := q, off := 0 }), Value.pointer (some { block := r, off := 0 }), (Value.iface 27 (Value.int IntKind.i64 c)), (Value.iface 27 (Value.int IntKind.i64 c)), undef, undef, undef, undef, undef] := rfl
  rw [e1]
  have HP := Lib.hid hp
  have HQ := hq.row #[.int .u64 0, .string { data := #[] }, .string { data := #[] }, .slice none 0 0, .slice none 0 0, .slice none 0 0] (Ne.symm h1)
  have hq1 := HQ.cell 0
  have hq2 := HQ.free 0
  have HR := (hr.row #[.int .u64 0, .string { data := #[] }, .string { data := #[] }, .slice none 0 0, .slice none 0 0, .slice none 0 0] (Ne.symm h2)).other ⟨q, 0, none⟩ (.slice none 0 0) (Ne.symm h3)
  have hr1 := HR.cell 0
  have hr2 := HR.free 0
  simp at hq1 hr1
  have hb0 := built55
  clear hp hq hr HQ HR
  generalize hQ : (bodyPostS Tryz.prog Tryz.f30 c₀ cs fun e u' w' => _) = QQ
  have HQQ := Lib.hid hQ
  clear hQ
  go_wp2_with (first | (go_at_call 31; refine (cwhy_any c _).mono ?_; rintro e w' ⟨rfl, rfl⟩) | (refine wpList_store_row (P := Tryz.prog) rfl 26 (.tmp 0) (.tmp 7) rfl p #[.int .u64 0, .string { data := #[] }, .string { data := #[] }, .slice none 0 0, .slice none 0 0, .slice none 0 0] rfl rfl 26 _ HP.out info55 (by simpa using hpz) (all_cert _ _ _ _ _ _ _ _ _ _ _ _) ?_))
  rw [← HQQ.out]
  exact ⟨rfl, _, rfl, .tuple #[], by simp [results, Tryz.results30], rfl, rfl, rfl⟩
theorem idleP (p q r : Addr) (w : World) :
    CallsD Tryz.prog 30 #[.pointer (some p), .pointer (some q), .pointer (some r)] .returning w fun e u' w' => e = .returned (.tuple #[]) ∧ u' = .returning ∧ w = w' := by
  refine callsD_of_wpS Tryz.func30 rfl fun c₀ cs hu => ?_
  apply wpS_seq
  apply wpS_region
  simp [wpOpsS, go_sem, recoverD, hu, Tryz.ntmps30, Exit.thenS]
  refine wpS_of_wp ?_
  generalize hQ : (bodyPostS Tryz.prog Tryz.f30 c₀ cs fun e u' w' => _) = QQ
  have HQQ := Lib.hid hQ
  clear hQ
  have e1 : (#[Value.pointer (some p), Value.pointer (some q), Value.pointer (some r)] ++ ((Array.replicate 7 undef).setIfInBounds 1 Value.nilIface).setIfInBounds 0 Value.nilIface) = #[Value.pointer (some p), Value.pointer (some q), Value.pointer (some r), Value.nilIface, Value.nilIface, undef, undef, undef, undef, undef] := rfl
  rw [e1]
  go_wp2
  rw [← HQQ.out]
  exact ⟨rfl, c₀.mode, rfl, .tuple #[], by simp [results, Tryz.results30], rfl, hu, rfl⟩
theorem resP (tmps : Array Value) (p q r : Nat) (cs : List Value) (hc : cs.length = 6) (a : Option Addr) (n c : Nat) (x : Int) (w : World) (h2 : tmps.getD 2 undef = .pointer (some ⟨p, 0, none⟩)) (h3 : tmps.getD 3 undef = .pointer (some ⟨q, 0, none⟩)) (h4 : tmps.getD 4 undef = .pointer (some ⟨r, 0, none⟩)) (hp : Blk w p 26 cs) (hq : Blk w q 22 [.slice a n c]) (hr : Blk w r 27 [.int .i64 x]) :
    (results Tryz.f6 tmps).run Tryz.prog w = .ok (.tuple #[.agg cs.toArray, .slice a n c, .int .i64 x]) w := by
  have h2' : tmps[2]?.getD undef = .pointer (some ⟨p, 0, none⟩) := by simpa using h2
  have h3' : tmps[3]?.getD undef = .pointer (some ⟨q, 0, none⟩) := by simpa using h3
  have h4' : tmps[4]?.getD undef = .pointer (some ⟨r, 0, none⟩) := by simpa using h4
  have hq1 := hq.cell 0
  have hr1 := hr.cell 0
  simp at hq1 hr1
  have hl0 := run_loadVar_row (P := Tryz.prog) w p 26 26 cs.toArray (0, 0) _ hp Tryz.underlying26 rfl (by rw [info55]; simp [hc])
  have hl : (loadVar 22 ⟨q, 0, none⟩).run Tryz.prog w = .ok (.slice a n c) w := by simp [go_sem, hq1]
  have hl2 : (loadVar 27 ⟨r, 0, none⟩).run Tryz.prog w = .ok (.int .i64 x) w := by simp [go_sem, hr1]
  simp [results, Tryz.results6, h2', h3', h4', asAddr, hl0, hl, hl2]
abbrev pD (p q r : Nat) : Deferred := { target := Target.fn (Fn.func 30) #[.pointer (some ⟨p, 0, none⟩), .pointer (some ⟨q, 0, none⟩), .pointer (some ⟨r, 0, none⟩)], args := #[] }
theorem exitP_bad {R : Ending → World → Prop} {tmps : Array Value} (p q r : Nat) (c : Int) (ti : List Value) (v0 : Value) (x : Int) (wx : World) (h1 : p ≠ q) (h2' : p ≠ r) (h3' : q ≠ r) (hp : Blk wx p 26 ti) (hpz : ti.length = 6) (hq : Blk wx q 22 [v0]) (hr : Blk wx r 27 [.int .i64 x])
    (h2 : tmps.getD 2 undef = .pointer (some ⟨p, 0, none⟩)) (h3 : tmps.getD 3 undef = .pointer (some ⟨q, 0, none⟩)) (h4 : tmps.getD 4 undef = .pointer (some ⟨r, 0, none⟩))
    (hR : R (.returned (.tuple #[.agg #[.int .u64 0, .string { data := #[] }, .string { data := #[] }, .slice none 0 0, .slice none 0 0, .slice none 0 0], .slice none 0 0, .int .i64 c])) (((wx.setRow p #[.int .u64 0, .string { data := #[] }, .string { data := #[] }, .slice none 0 0, .slice none 0 0, .slice none 0 0]).setCell ⟨q, 0, none⟩ (.slice none 0 0)).setCell ⟨r, 0, none⟩ (.int .i64 c))) :
    bodyPostD Tryz.prog Tryz.f6 R (Exit.panic [{ v := .iface 27 (.int .i64 c), recovered := false }]) { tmps := tmps, defers := [pD p q r] } wx := by
  refine leaves_cons (f := 30) (args := #[.pointer (some ⟨p, 0, none⟩), .pointer (some ⟨q, 0, none⟩), .pointer (some ⟨r, 0, none⟩)]) (by simp) (by simp [go_sem]) ?_
  refine (catchP p q r c ti v0 x _ h1 h2' h3' hp hpz hq hr).mono ?_
  rintro e u' w'' ⟨rfl, rfl, rfl⟩
  have hp2 := ((hp.setRow [.int .u64 0, .string { data := #[] }, .string { data := #[] }, .slice none 0 0, .slice none 0 0, .slice none 0 0]).other ⟨q, 0, none⟩ (.slice none 0 0) h1).other ⟨r, 0, none⟩ (.int .i64 c) h2'
  have hq2 := ((hq.row #[.int .u64 0, .string { data := #[] }, .string { data := #[] }, .slice none 0 0, .slice none 0 0, .slice none 0 0] (Ne.symm h1)).set 0 (.slice none 0 0)).other ⟨r, 0, none⟩ (.int .i64 c) h3'
  have hr2 := ((hr.row #[.int .u64 0, .string { data := #[] }, .string { data := #[] }, .slice none 0 0, .slice none 0 0, .slice none 0 0] (Ne.symm h2')).other ⟨q, 0, none⟩ (.slice none 0 0) (Ne.symm h3')).set 0 (.int .i64 c)
  exact ⟨_, resP tmps p q r _ rfl none 0 0 c _ h2 h3 h4 hp2 hq2 hr2, hR⟩
theorem exitP_good {R : Ending → World → Prop} {tmps : Array Value} (p q r : Nat) (cs : List Value) (hc : cs.length = 6) (a : Option Addr) (n c : Nat) (x : Int) (wx : World) (hp : Blk wx p 26 cs) (hq : Blk wx q 22 [.slice a n c]) (hr : Blk wx r 27 [.int .i64 x])
    (h2 : tmps.getD 2 undef = .pointer (some ⟨p, 0, none⟩)) (h3 : tmps.getD 3 undef = .pointer (some ⟨q, 0, none⟩)) (h4 : tmps.getD 4 undef = .pointer (some ⟨r, 0, none⟩))
    (hR : R (.returned (.tuple #[.agg cs.toArray, .slice a n c, .int .i64 x])) wx) :
    bodyPostD Tryz.prog Tryz.f6 R Exit.ret { tmps := tmps, defers := [pD p q r] } wx := by
  refine leaves_cons (f := 30) (args := #[.pointer (some ⟨p, 0, none⟩), .pointer (some ⟨q, 0, none⟩), .pointer (some ⟨r, 0, none⟩)]) (by simp) (by simp [go_sem]) ?_
  refine (idleP _ _ _ _).mono ?_
  rintro e u' w'' ⟨rfl, rfl, rfl⟩
  exact ⟨_, resP tmps p q r cs hc a n c x _ h2 h3 h4 hp hq hr, hR⟩
section
variable {ops : Array Oper} {o : Oper} {a : Act} {g x : Nat} {t : TypeId} {p q : Operand}
theorem stKB (hw : Region.wanted o (yielded ops a.tmps) = true) {A : Option Addr} {n c : Nat} (ho : o.op = .store 22 p q) (hp : a.eval p = .pointer (some ⟨g, x, none⟩)) (hq : a.eval q = .slice A n c) : StoresC Tryz.prog ops o g x t (.slice A n c) a :=
  StoresC.mk hw (fun w old hb hx => by
    have hc := hb.cell x
    have hf := hb.free x
    rw [List.getElem?_eq_getElem hx] at hc
    unfold execOp
    simp only [ho, hp, hq]
    go_simp)
theorem stKE (hw : Region.wanted o (yielded ops a.tmps) = true) {z : Int} (ho : o.op = .store 27 p q) (hp : a.eval p = .pointer (some ⟨g, x, none⟩)) (hq : a.eval q = .int .i64 z) : StoresC Tryz.prog ops o g x t (.int .i64 z) a :=
  StoresC.mk hw (fun w old hb hx => by
    have hc := hb.cell x
    have hf := hb.free x
    rw [List.getElem?_eq_getElem hx] at hc
    unfold execOp
    simp only [ho, hp, hq]
    go_simp)
end
theorem formedK_131 (w : World) : Calls Tryz.prog 59 #[.slice none 0 0, .int .i64 131] w fun e w' => e = boom 131 ∧ w = w' := formedK_bad (none, 0, 0) 131 (by decide) w
set_option maxRecDepth 100000 in
theorem read_short (a a' : Option Addr) (n c m c' : Nat) (hm : m < 3) (w : World) : Calls Tryz.prog 34 #[.agg #[.int .u8 48, .slice a n c, .slice a' m c']] w fun e w' => e = boom 131 ∧ Below w.heap.size w w' := by
  have HBX := Lib.hid ((Blk.new w 45 [.int .u8 48, .slice a n c, .slice a' m c']).alloc (.cells #[.int .u64 0, .string { data := #[] }, .string { data := #[] }, .slice none 0 0, .slice none 0 0, .slice none 0 0] 26))
  have H00 := Lib.hid (((Below.refl _ w).alloc (Nat.le_refl _) (.cells #[.int .u8 48, .slice a n c, .slice a' m c'] 45)).alloc (by simp) (.cells #[.int .u64 0, .string { data := #[] }, .string { data := #[] }, .slice none 0 0, .slice none 0 0, .slice none 0 0] 26))
  have HM := Lib.hid hm
  clear hm
  go_enter Tryz.func34, Tryz.ntmps34
  generalize hW0 : (w.alloc (.cells #[.int .u8 48, .slice a n c, .slice a' m c'] 45)).alloc (.cells #[.int .u64 0, .string { data := #[] }, .string { data := #[] }, .slice none 0 0, .slice none 0 0, .slice none 0 0] 26) = W0 at *
  go_wp2_with (first | (refine wpList_load_row (P := Tryz.prog) rfl 45 (.tmp 1) rfl w.heap.size rfl 45 _ _ _ HBX.out Tryz.underlying45 rfl info25 ?_) | (go_at_call 60; (with_reducible refine (parts_bad 48 48 _ _ _ _ _ _ 3 3 3 3 rfl rfl (fun h => by have := HM.out; omega) _).mono ?_); rintro e w2 ⟨rfl, hb2⟩; have H00 := Lib.hid (H00.out.trans (Below.mono hb2 H00.out.size)); clear hb2) | (go_at_call 59; (with_reducible refine (formedK_131 _).mono ?_); rintro e w_ ⟨rfl, rfl⟩))
  all_goals exact ⟨rfl, rfl, H00.out⟩
theorem dec_k {l : List Nat} {t : Nat} {b : List Nat} {k : Tr} (h : decE l = .ok (t, b, k)) {w : World} {a : Option Addr} {n c : Nat} (hin : BIn w a n c l) : Calls Tryz.prog 33 #[.slice a n c] w fun e w' =>
    ∃ a1 n1 c1 a2 n2 c2, b.length = n1 ∧ k.len = n2 ∧ e = .returned (.tuple #[.agg #[.int .u8 (t : Nat), .slice a1 n1 c1, .slice a2 n2 c2], .int .i64 0]) ∧ Dep (FB w.heap.size) w' (fun x => ItIn x t a1 c1 a2 c2 b k) ∧ Below w.heap.size w w' := by
  have := Decode_any l w a n c hin
  rw [h] at this
  refine this.mono fun e w' h => ?_
  obtain ⟨v1, v2, L, rfl, hV, _⟩ := h.2
  obtain ⟨a1, c1, a2, c2, _, rfl, rfl, hit⟩ := hV.item
  exact ⟨a1, _, c1, a2, _, c2, rfl, rfl, rfl, dep_item hV, h.1⟩
set_option maxRecDepth 100000 in
set_option maxHeartbeats 8000000 in
theorem Parse_bad0 (w : World) (a : Option Addr) (c : Nat) (hin : BIn w a 2 c [48, 0]) : Calls Tryz.prog 6 #[.slice a 2 c] w fun e w' => e = .returned (.tuple #[.agg #[.int .u64 0, .string { data := #[] }, .string { data := #[] }, .slice none 0 0, .slice none 0 0, .slice none 0 0], .slice none 0 0, .int .i64 131]) ∧ Below w.heap.size w w' := by
  have hmf : ∀ (fn : Fn) (first cap : Array Value) (w : World), (Instr.makeFunc fn first cap).run Tryz.prog w = .ok (.func fn first cap) w := fun _ _ _ _ => rfl
  have h00 : Below w.heap.size w (((w.alloc (.cells #[.int .u64 0, .string { data := #[] }, .string { data := #[] }, .slice none 0 0, .slice none 0 0, .slice none 0 0] 26)).alloc (.cells #[.slice none 0 0] 22)).alloc (.cells #[.int .i64 0] 27)) := (((Below.refl _ w).alloc (Nat.le_refl _) _).alloc (by simp) _).alloc (by simp; omega) _
  have HP := Lib.hid (((Blk.new w 26 [.int .u64 0, .string { data := #[] }, .string { data := #[] }, .slice none 0 0, .slice none 0 0, .slice none 0 0]).alloc (.cells #[.slice none 0 0] 22)).alloc (.cells #[.int .i64 0] 27))
  have HQ := Lib.hid ((Blk.new2 w (.cells #[.int .u64 0, .string { data := #[] }, .string { data := #[] }, .slice none 0 0, .slice none 0 0, .slice none 0 0] 26) 22 [.slice none 0 0]).alloc (.cells #[.int .i64 0] 27))
  have HR := Lib.hid (Blk.new3 w (.cells #[.int .u64 0, .string { data := #[] }, .string { data := #[] }, .slice none 0 0, .slice none 0 0, .slice none 0 0] 26) (.cells #[.slice none 0 0] 22) 27 [.int .i64 0])
  have HB := Lib.hid (hin.below h00)
  have HS0 := Lib.hid (show w.heap.size + 3 ≤ (((w.alloc (.cells #[.int .u64 0, .string { data := #[] }, .string { data := #[] }, .slice none 0 0, .slice none 0 0, .slice none 0 0] 26)).alloc (.cells #[.slice none 0 0] 22)).alloc (.cells #[.int .i64 0] 27)).heap.size by simp)
  have H00 := Lib.hid h00
  have HD := Lib.hid (show decE [48, 0] = .ok (48, [], .nil) from rfl)
  clear h00 hin
  go_enter_defers Tryz.func6, Tryz.ntmps6
  generalize hW0 : ((w.alloc (.cells #[.int .u64 0, .string { data := #[] }, .string { data := #[] }, .slice none 0 0, .slice none 0 0, .slice none 0 0] 26)).alloc (.cells #[.slice none 0 0] 22)).alloc (.cells #[.int .i64 0] 27) = W0 at *
  go_wp2_with (first | (go_at_call 33; (with_reducible refine (dec_k HD.out HB.out).mono ?_); rintro e w2 ⟨a2, n2, c2, b2, m2, d2, rfl, rfl, rfl, hd2, hb2⟩; have HP := Lib.hid (HP.out.below' hb2); have HQ := Lib.hid (HQ.out.below' hb2); have HR := Lib.hid (HR.out.below' hb2); have H00 := Lib.hid (H00.out.trans (Below.mono hb2 H00.out.size)); clear hd2 hb2) | (go_at_call 32; (with_reducible refine (passedI_ok _ _ _ _ _ _ _ _).mono ?_); rintro e w3 ⟨rfl, hb3⟩; have HP := Lib.hid (HP.out.below' hb3); have HQ := Lib.hid (HQ.out.below' hb3); have HR := Lib.hid (HR.out.below' hb3); have H00 := Lib.hid (H00.out.trans (Below.mono hb3 H00.out.size)); clear hb3) | (refine wpList_store_row (P := Tryz.prog) rfl 45 (.tmp 5) (.tmp 11) rfl w3.heap.size #[.int .u8 48, .slice a2 0 c2, .slice b2 0 d2] rfl rfl 45 _ (Blk.new w3 45 [.int .u8 0, .slice none 0 0, .slice none 0 0]) info25 rfl (all_item _ _ _ _ _ _ _) ?_; have hb4 : Gr w3 ((w3.alloc (.cells #[.int .u8 0, .slice none 0 0, .slice none 0 0] 45)).setRow w3.heap.size #[.int .u8 48, .slice a2 0 c2, .slice b2 0 d2]) := below_setRow' (Gr.alloc w3 _) (Nat.le_refl _) _; have HX := Lib.hid ((Blk.new w3 45 [.int .u8 0, .slice none 0 0, .slice none 0 0]).setRow [.int .u8 48, .slice a2 0 c2, .slice b2 0 d2]); have HP := Lib.hid (HP.out.below' hb4); have HQ := Lib.hid (HQ.out.below' hb4); have HR := Lib.hid (HR.out.below' hb4); have H00 := Lib.hid (H00.out.trans (Below.mono hb4 H00.out.size)); clear hb4; generalize (w3.alloc (.cells #[.int .u8 0, .slice none 0 0, .slice none 0 0] 45)).setRow w3.heap.size #[.int .u8 48, .slice a2 0 c2, .slice b2 0 d2] = w4 at *) | (refine wpList_load_row (P := Tryz.prog) rfl 45 (.tmp 5) rfl w3.heap.size rfl 45 _ _ _ HX.out Tryz.underlying45 rfl info25 ?_) | (go_at_call 34; (with_reducible refine (read_short _ _ _ _ _ _ (by decide) _).mono ?_); rintro e w5 ⟨rfl, hb5⟩; have HP := Lib.hid (HP.out.below' hb5); have HQ := Lib.hid (HQ.out.below' hb5); have HR := Lib.hid (HR.out.below' hb5); have H00 := Lib.hid (H00.out.trans (Below.mono hb5 H00.out.size)); clear hb5))
  exact exitP_bad w.heap.size (w.heap.size + 1) (w.heap.size + 1 + 1) 131 _ _ _ _ (by omega) (by omega) (by omega) HP.out rfl HQ.out HR.out rfl rfl rfl ⟨rfl, ((below_setRow' H00.out (Nat.le_refl _) _).setCell (p := ⟨w.heap.size + 1, 0, none⟩) (by simp) _).setCell (p := ⟨w.heap.size + 1 + 1, 0, none⟩) (by simp; omega) _⟩
theorem leaves_congr {P : Program} {fn : Func} {tmps tmps' : Array Value} {R : Ending → World → Prop} (h : results fn tmps = results fn tmps') : ∀ (ds : List Deferred) (u : FrameMode) (w : World), Leaves P fn tmps R ds u w → Leaves P fn tmps' R ds u w
  | [], .returning, w, hl => by simpa only [Leaves, ← h] using hl
  | [], .panicking chain, w, hl => hl
  | [], .run, w, hl => hl
  | d :: ds, u, w, hl => by
    obtain ⟨h1, fv, cap, f, args, h2, h3, h4⟩ := hl
    refine ⟨h1, fv, cap, f, args, h2, h3, h4.mono ?_⟩
    intro e u' w' he
    cases e with
    | returned v => exact leaves_congr h ds _ _ he
    | panicked c => exact leaves_congr h ds _ _ he
    | outgrown => exact he
theorem getD_setv {tmps : Array Value} {i j : Nat} (v : Value) (h : i ≠ j) : (tmps.setIfInBounds i v).getD j undef = tmps.getD j undef := by
  simp [Array.getElem?_setIfInBounds_ne h]
theorem panicP {R : Ending → World → Prop} {c : _} {a : Act} {w : World} (i : Nat) (v : Value) (hi : i ≠ 2 ∧ i ≠ 3 ∧ i ≠ 4) (h : bodyPostD Tryz.prog Tryz.f6 R (.panic c) (a.put (some i) v) w) : bodyPostD Tryz.prog Tryz.f6 R (.panic c) a w := by
  refine leaves_congr ?_ _ _ _ h
  have h2 := getD_setv (tmps := a.tmps) v hi.1
  have h3 := getD_setv (tmps := a.tmps) v hi.2.1
  have h4 := getD_setv (tmps := a.tmps) v hi.2.2
  simp only [Array.getD_eq_getD_getElem?] at h2 h3 h4
  simp [results, Tryz.results6, Act.put, h2, h3, h4]
set_option maxRecDepth 100000 in
set_option maxHeartbeats 16000000 in
theorem Parse_0 (w : World) (sn : Nat) (hsn : sn < 18446744073709551616) (ib sb kb sg : List Nat) (h8i : ∀ x ∈ ib, x < 256) (h8s : ∀ x ∈ sb, x < 256) (hn1 : nameOk ib = true) (hn2 : nameOk sb = true) (hkn : kb.length = 2017) (hsl : sg.length = 3373) (l tl : List Nat) (hl : decE l = .ok (48, [], crtK sn ib sb kb sg .nil)) (ht : encE 48 [] (tbsK sn ib sb kb .nil) = .ok tl)
    (a : Option Addr) (n c : Nat) (hin : BIn w a n c l) : Calls Tryz.prog 6 #[.slice a n c] w fun e w' =>
    ∃ ka kc sa sc x y, e = .returned (.tuple #[certV sn (strV ib) (strV sb) ka 2017 kc none 0 0 sa 3373 sc, .slice x tl.length y, .int .i64 0]) ∧ BIn w' ka 2017 kc kb ∧ BIn w' sa 3373 sc sg ∧ BIn w' x tl.length y tl ∧ Below w.heap.size w w' := by
  have hmf : ∀ (fn : Fn) (first cap : Array Value) (w : World), (Instr.makeFunc fn first cap).run Tryz.prog w = .ok (.func fn first cap) w := fun _ _ _ _ => rfl
  have h00 : Below w.heap.size w (((w.alloc (.cells #[.int .u64 0, .string { data := #[] }, .string { data := #[] }, .slice none 0 0, .slice none 0 0, .slice none 0 0] 26)).alloc (.cells #[.slice none 0 0] 22)).alloc (.cells #[.int .i64 0] 27)) := (((Below.refl _ w).alloc (Nat.le_refl _) _).alloc (by simp) _).alloc (by simp; omega) _
  have HP := Lib.hid (((Blk.new w 26 [.int .u64 0, .string { data := #[] }, .string { data := #[] }, .slice none 0 0, .slice none 0 0, .slice none 0 0]).alloc (.cells #[.slice none 0 0] 22)).alloc (.cells #[.int .i64 0] 27))
  have HQ := Lib.hid ((Blk.new2 w (.cells #[.int .u64 0, .string { data := #[] }, .string { data := #[] }, .slice none 0 0, .slice none 0 0, .slice none 0 0] 26) 22 [.slice none 0 0]).alloc (.cells #[.int .i64 0] 27))
  have HR := Lib.hid (Blk.new3 w (.cells #[.int .u64 0, .string { data := #[] }, .string { data := #[] }, .slice none 0 0, .slice none 0 0, .slice none 0 0] 26) (.cells #[.slice none 0 0] 22) 27 [.int .i64 0])
  have HB := Lib.hid (hin.below h00)
  have HS0 := Lib.hid (show w.heap.size + 3 ≤ (((w.alloc (.cells #[.int .u64 0, .string { data := #[] }, .string { data := #[] }, .slice none 0 0, .slice none 0 0, .slice none 0 0] 26)).alloc (.cells #[.slice none 0 0] 22)).alloc (.cells #[.int .i64 0] 27)).heap.size by simp)
  have H00 := Lib.hid h00
  have HD := Lib.hid hl
  have HT := Lib.hid ht
  have HSN := Lib.hid hsn
  have HKN := Lib.hid hkn
  have HSL := Lib.hid hsl
  have HI := Lib.hid (strL_strV h8i)
  have HI2 := Lib.hid (strL_strV h8s)
  have HN1 := Lib.hid hn1
  have HN2 := Lib.hid hn2
  clear h00 hin hl ht hsn hkn hsl h8i h8s hn1 hn2
  go_enter_defers Tryz.func6, Tryz.ntmps6
  generalize hW0 : ((w.alloc (.cells #[.int .u64 0, .string { data := #[] }, .string { data := #[] }, .slice none 0 0, .slice none 0 0, .slice none 0 0] 26)).alloc (.cells #[.slice none 0 0] 22)).alloc (.cells #[.int .i64 0] 27) = W0 at *
  go_wp2_with (first | (go_at_call 33; (with_reducible refine (dec_k HD.out HB.out).mono ?_); rintro e w2 ⟨a2, n2, c2, b2, m2, d2, rfl, hm2, rfl, hd2, hb2⟩; obtain rfl : 3 = m2 := hm2; have HDD := Lib.hid (hd2.mono (E := FB (w.heap.size + 3)) (fun j (hj : W0.heap.size ≤ j) _ => by { have := HS0.out; show w.heap.size + 3 ≤ j; omega })); have HP := Lib.hid (HP.out.below' hb2); have HQ := Lib.hid (HQ.out.below' hb2); have HR := Lib.hid (HR.out.below' hb2); have H00 := Lib.hid (H00.out.trans (Below.mono hb2 H00.out.size)); clear hd2 hb2) | (go_at_call 32; (with_reducible refine (passedI_ok _ _ _ _ _ _ _ _).mono ?_); rintro e w3 ⟨rfl, hb3⟩; have HDD := Lib.hid (HDD.out.below hb3); have HP := Lib.hid (HP.out.below' hb3); have HQ := Lib.hid (HQ.out.below' hb3); have HR := Lib.hid (HR.out.below' hb3); have H00 := Lib.hid (H00.out.trans (Below.mono hb3 H00.out.size)); clear hb3) | (refine wpList_store_row (P := Tryz.prog) rfl 45 (.tmp 5) (.tmp 11) rfl w3.heap.size #[.int .u8 48, .slice a2 0 c2, .slice b2 3 d2] rfl rfl 45 _ (Blk.new w3 45 [.int .u8 0, .slice none 0 0, .slice none 0 0]) info25 rfl (all_item _ _ _ _ _ _ _) ?_; have hb4 : Gr w3 ((w3.alloc (.cells #[.int .u8 0, .slice none 0 0, .slice none 0 0] 45)).setRow w3.heap.size #[.int .u8 48, .slice a2 0 c2, .slice b2 3 d2]) := below_setRow' (Gr.alloc w3 _) (Nat.le_refl _) _; have HX := Lib.hid ((Blk.new w3 45 [.int .u8 0, .slice none 0 0, .slice none 0 0]).setRow [.int .u8 48, .slice a2 0 c2, .slice b2 3 d2]); have HXG := Lib.hid (show w.heap.size < w3.heap.size from HP.out.lt); have HDD := Lib.hid (HDD.out.below hb4); have HP := Lib.hid (HP.out.below' hb4); have HQ := Lib.hid (HQ.out.below' hb4); have HR := Lib.hid (HR.out.below' hb4); have H00 := Lib.hid (H00.out.trans (Below.mono hb4 H00.out.size)); clear hb4; generalize (w3.alloc (.cells #[.int .u8 0, .slice none 0 0, .slice none 0 0] 45)).setRow w3.heap.size #[.int .u8 48, .slice a2 0 c2, .slice b2 3 d2] = w4 at *) | (refine wpList_load_row (P := Tryz.prog) rfl 45 (.tmp 5) rfl w3.heap.size rfl 45 _ _ _ HX.out Tryz.underlying45 rfl info25 ?_) | (go_at_call 34; (with_reducible refine (read_0 w4 sn HSN.out ib sb kb sg 2017 3373 HKN.out HSL.out _ _ _ _ _ HDD.out.now).mono ?_); rintro e w5 ⟨ka, kc, sa, sc, rfl, hkb, hsg, hb5⟩; have HDD := Lib.hid (HDD.out.below hb5); have HX := Lib.hid (HX.out.below' hb5); have HKB := Lib.hid (hkb.rowK (HP.out.below' hb5) (by { intro v hv z; simp at hv; rcases hv with rfl | rfl | rfl <;> simp }) #[.int .u64 (sn : Nat), .string (strV ib), .string (strV sb), .slice ka 2017 kc, .slice none 0 0, .slice sa 3373 sc]); have HSG := Lib.hid (hsg.rowK (HP.out.below' hb5) (by { intro v hv z; simp at hv; rcases hv with rfl | rfl | rfl <;> simp }) #[.int .u64 (sn : Nat), .string (strV ib), .string (strV sb), .slice ka 2017 kc, .slice none 0 0, .slice sa 3373 sc]); have HP := Lib.hid (HP.out.below' hb5); have HQ := Lib.hid (HQ.out.below' hb5); have HR := Lib.hid (HR.out.below' hb5); have H00 := Lib.hid (H00.out.trans (Below.mono hb5 H00.out.size)); clear hb5 hkb hsg) | (refine wpList_store_row (P := Tryz.prog) rfl 26 (.tmp 2) (.tmp 13) rfl w.heap.size #[.int .u64 (sn : Nat), .string (strV ib), .string (strV sb), .slice ka 2017 kc, .slice none 0 0, .slice sa 3373 sc] rfl rfl 26 _ HP.out info55 rfl (all_cert _ _ _ _ _ _ _ _ _ _ _ _) ?_; have HDD := Lib.hid (HDD.out.row w.heap.size #[.int .u64 (sn : Nat), .string (strV ib), .string (strV sb), .slice ka 2017 kc, .slice none 0 0, .slice sa 3373 sc] (fun h => by { have : w.heap.size + 3 ≤ w.heap.size := h; omega })); have HX := Lib.hid (HX.out.row #[.int .u64 (sn : Nat), .string (strV ib), .string (strV sb), .slice ka 2017 kc, .slice none 0 0, .slice sa 3373 sc] (show w3.heap.size ≠ w.heap.size by { have := HXG.out; omega })); have HQ := Lib.hid (HQ.out.row #[.int .u64 (sn : Nat), .string (strV ib), .string (strV sb), .slice ka 2017 kc, .slice none 0 0, .slice sa 3373 sc] (show w.heap.size + 1 ≠ w.heap.size by omega)); have HR := Lib.hid (HR.out.row #[.int .u64 (sn : Nat), .string (strV ib), .string (strV sb), .slice ka 2017 kc, .slice none 0 0, .slice sa 3373 sc] (show w.heap.size + 1 + 1 ≠ w.heap.size by omega)); have HP := Lib.hid (HP.out.setRow [.int .u64 (sn : Nat), .string (strV ib), .string (strV sb), .slice ka 2017 kc, .slice none 0 0, .slice sa 3373 sc]); have H00 := Lib.hid (below_setRow' H00.out (Nat.le_refl _) #[.int .u64 (sn : Nat), .string (strV ib), .string (strV sb), .slice ka 2017 kc, .slice none 0 0, .slice sa 3373 sc]); generalize w5.setRow w.heap.size #[.int .u64 (sn : Nat), .string (strV ib), .string (strV sb), .slice ka 2017 kc, .slice none 0 0, .slice sa 3373 sc] = w6 at *) | (refine wpList_load_row (P := Tryz.prog) rfl 26 (.tmp 2) rfl w.heap.size rfl 26 _ _ _ HP.out Tryz.underlying26 rfl info55 ?_) | (go_at_call 35; (with_reducible refine (lookAtSig_ok _ _ _ _ _ _ _ _ _ _ _ _).mono ?_); rintro e w7 ⟨rfl, hb7⟩; have HDD := Lib.hid (HDD.out.below hb7); have HX := Lib.hid (HX.out.below' hb7); have HKB := Lib.hid (HKB.out.below hb7); have HSG := Lib.hid (HSG.out.below hb7); have HP := Lib.hid (HP.out.below' hb7); have HQ := Lib.hid (HQ.out.below' hb7); have HR := Lib.hid (HR.out.below' hb7); have H00 := Lib.hid (H00.out.trans (Below.mono hb7 H00.out.size)); clear hb7) | (go_at_call 36; (with_reducible refine (lookAtSigned_0 sn (strV ib) (strV sb) ib sb HI.out HI2.out HN1.out HN2.out ka kc none 0 sa _ sc _).mono ?_); rintro e w8 ⟨rfl, hb8⟩; have HDD := Lib.hid (HDD.out.below hb8); have HX := Lib.hid (HX.out.below' hb8); have HKB := Lib.hid (HKB.out.below hb8); have HSG := Lib.hid (HSG.out.below hb8); have HP := Lib.hid (HP.out.below' hb8); have HQ := Lib.hid (HQ.out.below' hb8); have HR := Lib.hid (HR.out.below' hb8); have H00 := Lib.hid (H00.out.trans (Below.mono hb8 H00.out.size)); clear hb8))
  obtain ⟨g1, o1, rfl, hr1⟩ := (HDD.out.now).2.2.addr (by simp [Tr.len])
  obtain ⟨x1, y1, x2, y2, r1, i1⟩ := row_at (A := .nil) (i := 0) (r := .node 48 [] algK (.node 3 (0 :: sg) .nil .nil)) hr1 rfl rfl rfl 48 rfl o1 rfl (n := 0) (m := 7)
  have R1 := Lib.hid r1
  have I1 := Lib.hid i1
  have kx := blkc HX.out (i := 2) rfl
  clear hr1 r1 i1
  have HS0 := Lib.hid (Nat.zero_le w8.heap.size)
  refine wp_region_L (fun w_ => Below w8.heap.size w8 w_) [9, 10, 11] [1, 3, 6, 7, 9, 10, 11] (by kernel_rfl) (Below.refl _ _).drew ?_
  refine wpAnyL_pure (fun _ _ hS_ hb_ => gr_bel hS_ hb_) (i := 1) rfl (by kernel_rfl) (fun _ _ _ h => panicP 19 _ (by decide) h) (pureG (by rfl) (by intro w_; go_simp; first | done | with_reducible rfl)) ?_
  try simp only [Act.put, List.getElem_toArray, List.getElem_cons_succ, List.getElem_cons_zero, List.setIfInBounds_toArray, List.set_cons_zero, List.set_cons_succ]
  refine wpAnyL_take (fun _ _ hS_ hb_ => gr_bel hS_ hb_) (i := 0) rfl (by kernel_rfl) (fun _ _ _ h => panicP 18 _ (by decide) h) (loadG (by rfl) _ _ rfl w.heap.size 0 rfl [.int .u64 (sn : Nat), .string (strV ib), .string (strV sb), .slice ka 2017 kc, .slice none 0 0, .slice sa 3373 sc] _ (fun w_ hS_ => rangeAt_below (blk_all6 HP.out) hS_) Tryz.underlying26 rfl info55) ?_
  try simp only [Act.put, List.getElem_toArray, List.getElem_cons_succ, List.getElem_cons_zero, List.setIfInBounds_toArray, List.set_cons_zero, List.set_cons_succ]
  refine wpAnyL_take (fun _ _ hS_ hb_ => gr_bel hS_ hb_) (i := 2) rfl (by kernel_rfl) (fun _ _ _ h => panicP 20 _ (by decide) h) (worldG (by rfl) (by intro w_ hS_; have q := (hS_.cell (World.block_lt_of_cell? w8 _ kx)).trans kx; go_simp; first | done | with_reducible rfl)) ?_
  try simp only [Act.put, List.getElem_toArray, List.getElem_cons_succ, List.getElem_cons_zero, List.setIfInBounds_toArray, List.set_cons_zero, List.set_cons_succ]
  refine wpAnyL_pure (fun _ _ hS_ hb_ => gr_bel hS_ hb_) (i := 3) rfl (by kernel_rfl) (fun _ _ _ h => panicP 21 _ (by decide) h) (pureG (by rfl) (by intro w_; go_simp; first | done | with_reducible rfl)) ?_
  try simp only [Act.put, List.getElem_toArray, List.getElem_cons_succ, List.getElem_cons_zero, List.setIfInBounds_toArray, List.set_cons_zero, List.set_cons_succ]
  refine wpAnyL_take (fun _ _ hS_ hb_ => gr_bel hS_ hb_) (i := 4) rfl (by kernel_rfl) (fun _ _ _ h => panicP 22 _ (by decide) h) (loadG (by rfl) _ _ rfl g1 o1 rfl [.int .u8 48, .slice x1 0 y1, .slice x2 7 y2] _ (fun w_ hS_ => rangeAt_below R1.out hS_) Tryz.underlying45 rfl info25) ?_
  try simp only [Act.put, List.getElem_toArray, List.getElem_cons_succ, List.getElem_cons_zero, List.setIfInBounds_toArray, List.set_cons_zero, List.set_cons_succ]
  refine wpAnyL_one (i := 5) (by kernel_rfl) (by decide) fun V5 hv5 hS5 => ?_
  have HSV5 : 0 ≤ V5.heap.size := by { have h1 := hS5.size; have h2 := HS0.out; omega }
  refine wpOp_callE (i := 5) rfl (by rfl) rfl Tryz.func38 (by kernel_rfl) (by kernel_rfl) #[.agg #[.int .u8 48, .slice x1 0 y1, .slice x2 7 y2]] (by simp [Act.eval]) ((enc_k HT.out (I1.out.below hS5) rfl rfl (ti := 48) rfl).mono ?_)
  rintro e w5 ⟨x5, y5, rfl, htl, hb5⟩
  have HTL := Lib.hid htl; clear htl
  refine ⟨_, rfl, Gr.trans hS5 hb5, ?_⟩
  try simp only [Act.put, List.getElem_toArray, List.getElem_cons_succ, List.getElem_cons_zero, List.setIfInBounds_toArray, List.set_cons_zero, List.set_cons_succ]
  refine wpAnyL_pure (fun _ _ hS_ hb_ => gr_bel hS_ hb_) (i := 6) rfl (by kernel_rfl) (fun _ _ _ h => panicP 24 _ (by decide) h) (pureG (by rfl) (by intro w_; go_simp; first | done | with_reducible rfl)) ?_
  try simp only [Act.put, List.getElem_toArray, List.getElem_cons_succ, List.getElem_cons_zero, List.setIfInBounds_toArray, List.set_cons_zero, List.set_cons_succ]
  refine wpAnyL_pure (fun _ _ hS_ hb_ => gr_bel hS_ hb_) (i := 7) rfl (by kernel_rfl) (fun _ _ _ h => panicP 25 _ (by decide) h) (pureG (by rfl) (by intro w_; go_simp; first | done | with_reducible rfl)) ?_
  try simp only [Act.put, List.getElem_toArray, List.getElem_cons_succ, List.getElem_cons_zero, List.setIfInBounds_toArray, List.set_cons_zero, List.set_cons_succ]
  refine wpAnyL_one (i := 8) (by kernel_rfl) (by decide) fun V6 hv6 hS6 => ?_
  have HSV6 : 0 ≤ V6.heap.size := by { have h1 := hS6.size; have h2 := HS0.out; omega }
  replace HTL := Lib.hid (HTL.out.below hv6)
  refine wpOp_callE (i := 8) rfl (by rfl) rfl Tryz.func37 (by kernel_rfl) (by kernel_rfl) #[.slice x5 tl.length y5, .int .i64 0] (by simp [Act.eval]) (((passedB_ok (x5, tl.length, y5) V6).mono (fun e w' h => (⟨h.1, by rw [← h.2]; exact Below.refl _ _⟩ : e = .returned (.slice x5 tl.length y5) ∧ Below V6.heap.size V6 w'))).mono ?_)
  rintro e w6 ⟨rfl, hb6⟩
  replace HTL := Lib.hid (HTL.out.below hb6)
  refine ⟨_, rfl, Gr.trans hS6 hb6, ?_⟩
  try simp only [Act.put, List.getElem_toArray, List.getElem_cons_succ, List.getElem_cons_zero, List.setIfInBounds_toArray, List.set_cons_zero, List.set_cons_succ]
  refine wpAnyL_oneF (i := 9) (by kernel_rfl) (by decide) (by kernel_rfl) (by decide) fun VA hvA => ?_
  have hBA := Below.trans hS6 (Below.mono (hb6.trans (Below.mono hvA hb6.size)) (Below.size hS6))
  have hPA := HP.out.below' hBA
  have hQA := HQ.out.below' hBA
  have hRA := HR.out.below' hBA
  have kA := HKB.out.below hBA
  have sA := HSG.out.below hBA
  have tA := HTL.out.below hvA
  have bA := H00.out.trans (Below.mono hBA H00.out.size)
  refine (StoresG.mk (g := w.heap.size) (t := 26) (cs := [.int .u64 (sn : Nat), .string (strV ib), .string (strV sb), .slice ka 2017 kc, .slice none 0 0, .slice sa 3373 sc]) (by rfl) _ _ _ rfl rfl rfl info55 (by intro v hv; simp at hv; rcases hv with rfl | rfl | rfl | rfl | rfl | rfl <;> rfl)).wpOp (i := 9) rfl hPA rfl ?_
  try simp only [Act.put, List.getElem_toArray, List.getElem_cons_succ, List.getElem_cons_zero, List.setIfInBounds_toArray, List.set_cons_zero, List.set_cons_succ]
  have hP1 := hPA.setRow [.int .u64 (sn : Nat), .string (strV ib), .string (strV sb), .slice ka 2017 kc, .slice none 0 0, .slice sa 3373 sc]
  have hQ1 := hQA.row #[.int .u64 (sn : Nat), .string (strV ib), .string (strV sb), .slice ka 2017 kc, .slice none 0 0, .slice sa 3373 sc] (show w.heap.size + 1 ≠ w.heap.size by omega)
  have hR1 := hRA.row #[.int .u64 (sn : Nat), .string (strV ib), .string (strV sb), .slice ka 2017 kc, .slice none 0 0, .slice sa 3373 sc] (show w.heap.size + 1 + 1 ≠ w.heap.size by omega)
  have k1 := kA.rowK hPA (by intro v hv z; simp at hv; rcases hv with rfl | rfl | rfl | rfl | rfl | rfl <;> simp) #[.int .u64 (sn : Nat), .string (strV ib), .string (strV sb), .slice ka 2017 kc, .slice none 0 0, .slice sa 3373 sc]
  have s1 := sA.rowK hPA (by intro v hv z; simp at hv; rcases hv with rfl | rfl | rfl | rfl | rfl | rfl <;> simp) #[.int .u64 (sn : Nat), .string (strV ib), .string (strV sb), .slice ka 2017 kc, .slice none 0 0, .slice sa 3373 sc]
  have t1 := tA.rowK hPA (by intro v hv z; simp at hv; rcases hv with rfl | rfl | rfl | rfl | rfl | rfl <;> simp) #[.int .u64 (sn : Nat), .string (strV ib), .string (strV sb), .slice ka 2017 kc, .slice none 0 0, .slice sa 3373 sc]
  have b1 := below_setRow' bA (Nat.le_refl _) #[.int .u64 (sn : Nat), .string (strV ib), .string (strV sb), .slice ka 2017 kc, .slice none 0 0, .slice sa 3373 sc]
  refine wpAnyL_oneF (i := 10) (by kernel_rfl) (by decide) (by kernel_rfl) (by decide) fun VB hvB => ?_
  have hPB := hP1.below' hvB
  have hQB := hQ1.below' hvB
  have hRB := hR1.below' hvB
  have kB := k1.below hvB
  have sB := s1.below hvB
  have tB := t1.below hvB
  have bB := b1.trans (Below.mono hvB b1.size)
  refine (stKB (g := w.heap.size + 1) (x := 0) (t := 22) (A := x5) (n := tl.length) (c := y5) (by rfl) rfl rfl rfl).wpOp (i := 10) rfl hQB (by simp) ?_
  try simp only [Act.put, List.getElem_toArray, List.getElem_cons_succ, List.getElem_cons_zero, List.setIfInBounds_toArray, List.set_cons_zero, List.set_cons_succ]
  have hP2 := hPB.other ⟨w.heap.size + 1, 0, none⟩ (.slice x5 tl.length y5) (show w.heap.size ≠ w.heap.size + 1 by omega)
  have hQ2 := hQB.set 0 (.slice x5 tl.length y5)
  have hR2 := hRB.other ⟨w.heap.size + 1, 0, none⟩ (.slice x5 tl.length y5) (show w.heap.size + 1 + 1 ≠ w.heap.size + 1 by omega)
  have k2 := kB.cell1 (u := .slice x5 tl.length y5) hQB (fun z h => by cases h)
  have s2 := sB.cell1 (u := .slice x5 tl.length y5) hQB (fun z h => by cases h)
  have t2 := tB.cell1 (u := .slice x5 tl.length y5) hQB (fun z h => by cases h)
  have b2 := bB.setCell (p := ⟨w.heap.size + 1, 0, none⟩) (by simp) (.slice x5 tl.length y5)
  refine wpAnyL_oneF (i := 11) (by kernel_rfl) (by decide) (by kernel_rfl) (by decide) fun VC hvC => ?_
  have hPC := hP2.below' hvC
  have hQC := hQ2.below' hvC
  have hRC := hR2.below' hvC
  have kC := k2.below hvC
  have sC := s2.below hvC
  have tC := t2.below hvC
  have bC := b2.trans (Below.mono hvC b2.size)
  refine (stKE (g := w.heap.size + 1 + 1) (x := 0) (t := 27) (z := 0) (by rfl) rfl rfl rfl).wpOp (i := 11) rfl hRC (by simp) ?_
  try simp only [Act.put, List.getElem_toArray, List.getElem_cons_succ, List.getElem_cons_zero, List.setIfInBounds_toArray, List.set_cons_zero, List.set_cons_succ]
  have hP3 := hPC.other ⟨w.heap.size + 1 + 1, 0, none⟩ (.int .i64 0) (show w.heap.size ≠ w.heap.size + 1 + 1 by omega)
  have hQ3 := hQC.other ⟨w.heap.size + 1 + 1, 0, none⟩ (.int .i64 0) (show w.heap.size + 1 ≠ w.heap.size + 1 + 1 by omega)
  have hR3 := hRC.set 0 (.int .i64 0)
  have k3 := kC.cell1 (u := .int .i64 0) hRC (fun z h => by cases h)
  have s3 := sC.cell1 (u := .int .i64 0) hRC (fun z h => by cases h)
  have t3 := tC.cell1 (u := .int .i64 0) hRC (fun z h => by cases h)
  have b3 := bC.setCell (p := ⟨w.heap.size + 1 + 1, 0, none⟩) (by simp; omega) (.int .i64 0)
  refine wpAnyL_done (by kernel_rfl) ?_ _
  intro W9 hg9
  have HPZ := Lib.hid (hP3.below' hg9)
  have HQZ := Lib.hid (hQ3.below' hg9)
  have HRZ := Lib.hid (hR3.below' hg9)
  have HKZ := Lib.hid (k3.below hg9)
  have HSZ := Lib.hid (s3.below hg9)
  have HTZ := Lib.hid (t3.below hg9)
  have HBZ := Lib.hid (b3.trans (Below.mono hg9 b3.size))
  clear hPA hQA hRA kA sA tA bA hP1 hQ1 hR1 k1 s1 t1 b1 hPB hQB hRB kB sB tB bB hP2 hQ2 hR2 k2 s2 t2 b2 hPC hQC hRC kC sC tC bC hP3 hQ3 hR3 k3 s3 t3 b3 kx
  go_wp2_with fail
  exact exitP_good w.heap.size (w.heap.size + 1) (w.heap.size + 1 + 1) [.int .u64 (sn : Nat), .string (strV ib), .string (strV sb), .slice ka 2017 kc, .slice none 0 0, .slice sa 3373 sc] rfl x5 tl.length y5 0 _ HPZ.out HQZ.out HRZ.out rfl rfl rfl ⟨ka, kc, sa, sc, x5, y5, rfl, HKZ.out, HSZ.out, HTZ.out, HBZ.out⟩
end Go.Proofs.YtbabpmncdphnjaaGreat
namespace Go.Proofs.YtbabpmncdphnjaaGreat
open Go.RowKit
set_option linter.unusedVariables false
set_option maxRecDepth 100000
set_option linter.unusedSimpArgs false
abbrev c0K : Tr := crtK 1 [97] [98] (zeros 2017) (zeros 3373) .nil
theorem c0_err : errI 48 [] c0K 1 = 0 := by decide +kernel
theorem c0_len : (encI 48 [] c0K).length ≤ 65536 := by decide +kernel
abbrev c1K : Tr := tbsK 1 [97] [98] (zeros 2017) .nil
theorem c1_err : errI 48 [] c1K 1 = 0 := by decide +kernel
theorem c1_len : (encI 48 [] c1K).length ≤ 65536 := by decide +kernel
theorem Blk.ne_type {w : World} {g g' : Nat} {t t' : TypeId} {cs cs' : List Value} (h : Blk w g t cs) (h' : Blk w g' t' cs') (ht : t ≠ t') : g ≠ g' := by
  rintro rfl
  unfold Blk at h h'
  rw [h] at h'
  injection h' with h'
  injection h' with _ h2
  exact ht h2
section
variable {P : Program} {md : Region.Mode} {ops : Array Oper} {Q : Exit → Act → World → Prop} {S : World → Prop} {D F : List Nat}
theorem wpAnyL_three {i j k fuel : Nat} {listed : Array Bool} {a : Act} {w : World} (hr : Region.ready md ops listed = [i, j, k]) (hFi : F.contains i = false) (hFj : F.contains j = false) (hFk : F.contains k = false)
    (h1 : ∀ W, Gr w W → S W → wpOp P ops Q i (fun a' w' => S w' ∧ wpAnyL P md ops Q S D F fuel (listed.setIfInBounds i true) a' w') a W)
    (h2 : ∀ W, Gr w W → S W → wpOp P ops Q j (fun a' w' => S w' ∧ wpAnyL P md ops Q S D F fuel (listed.setIfInBounds j true) a' w') a W)
    (h3 : ∀ W, Gr w W → S W → wpOp P ops Q k (fun a' w' => S w' ∧ wpAnyL P md ops Q S D F fuel (listed.setIfInBounds k true) a' w') a W) : wpAnyL P md ops Q S D F (fuel + 1) listed a w := by
  intro w1 hg hcl
  refine ⟨fun h0 => (by rw [h0] at hr; cases hr), fun hS q hq => ?_⟩
  have hq' := hq
  rw [hr] at hq'
  have hq2 : q = i ∨ q = j ∨ q = k := by simpa using hq'
  rcases hq2 with rfl | rfl | rfl
  · exact wpOp_mono (fun a' w' h' => ⟨⟨fun _ _ => h'.1, .inl h'.1⟩, h'.2⟩) (h1 w1 hg (rest_S hq hFi hS))
  · exact wpOp_mono (fun a' w' h' => ⟨⟨fun _ _ => h'.1, .inl h'.1⟩, h'.2⟩) (h2 w1 hg (rest_S hq hFj hS))
  · exact wpOp_mono (fun a' w' h' => ⟨⟨fun _ _ => h'.1, .inl h'.1⟩, h'.2⟩) (h3 w1 hg (rest_S hq hFk hS))
end
theorem mk_K (n : Nat) (ni : Int) (hni : (n : Int) = ni) (hn : n ≤ 100000) (w : World) : (Instr.makeSlice 22 (.int .i64 ni) (.int .i64 ni)).run Tryz.prog w = .ok (.slice (some ⟨w.heap.size, 0, none⟩) n n) (w.alloc (.cells (natsV .u8 (zeros n)).toArray 5)) := by
  subst hni; exact mk_u8 n hn w
theorem zeros_len (n : Nat) : (zeros n).length = n := by simp [zeros]
theorem zeros_8 (n : Nat) : ∀ x ∈ zeros n, x < 256 := by intro x hx; simp [zeros] at hx; omega
theorem bin_two (w : World) : BIn (w.alloc (.cells #[.int .u8 48, .int .u8 0] 5)) (some ⟨w.heap.size, 0, none⟩) 2 2 [48, 0] := by
  have h := World.ownsRow_lit (base := w.heap.size) (e := 5) (size := 1) w #[.int .u8 48, .int .u8 0] 2 (Nat.le_refl _) (by simp [maxLen]) rfl
  obtain ⟨a, c, e, hin, _⟩ := own_in (l := [48, 0]) h (by simp) (by omega)
  injection e with e1 _ e3
  subst e1 e3
  exact hin
theorem parse_live {l tl : List Nat} (hl : decE l = .ok (48, [], c0K)) (ht : encE 48 [] c1K = .ok tl) {w : World} {a : Option Addr} {n c : Nat} (hin : BIn w a n c l) : Calls Tryz.prog 6 #[.slice a n c] w fun e w' =>
    ∃ z is ka kc sa sc x m y, e = .returned (.tuple #[.agg #[.int .u64 z, .string is, .string { data := #[98] }, .slice ka 2017 kc, .slice none 0 0, .slice sa 3373 sc], .slice x m y, .int .i64 0]) ∧ Below w.heap.size w w' := by
  refine (Parse_0 w 1 (by decide) [97] [98] (zeros 2017) (zeros 3373) (by decide) (by decide) (by decide) (by decide) (zeros_len _) (zeros_len _) l tl hl ht a n c hin).mono fun e w' h => ?_
  obtain ⟨ka, kc, sa, sc, x, y, h1, _, _, _, h2⟩ := h
  exact ⟨_, _, ka, kc, sa, sc, x, _, y, h1, h2⟩
set_option maxRecDepth 100000 in
set_option maxHeartbeats 8000000 in
theorem calive_any (w : World) : Calls Tryz.prog 10 #[] w fun e w' => e = .returned (.bool true) ∧ Below w.heap.size w w' := by
  obtain ⟨l, hl⟩ : ∃ l, encE 48 [] c0K = .ok l := ⟨_, encE_good c0_err (Nat.not_lt.2 c0_len)⟩
  obtain ⟨tl, htl⟩ : ∃ l, encE 48 [] c1K = .ok l := ⟨_, encE_good c1_err (Nat.not_lt.2 c1_len)⟩
  have mkA := mk_K 2017 2017 rfl (by decide)
  have mkB := mk_K 3373 3373 rfl (by decide)
  have binA := Lib.hid (fun (W : World) (g : Nat) (h : Blk W g 5 (natsV .u8 (zeros 2017))) => blk_in h (zeros_len 2017) (by decide) (zeros_8 _))
  have binB := Lib.hid (fun (W : World) (g : Nat) (h : Blk W g 5 (natsV .u8 (zeros 3373))) => blk_in h (zeros_len 3373) (by decide) (zeros_8 _))
  have HBY := Lib.hid (fun (W : World) (ka sa : Option Addr) (hk : BIn W ka 2017 2017 (zeros 2017)) (hs : BIn W sa 3373 3373 (zeros 3373)) => (show Calls Tryz.prog 14 #[.agg #[.int .u64 1, .string { data := #[97] }, .string { data := #[98] }, .slice ka 2017 2017, .slice none 0 0, .slice sa 3373 3373]] W fun e w' => ∃ a c, e = .returned (.tuple #[.slice a l.length c, .int .i64 0]) ∧ BIn w' a l.length c l ∧ Below W.heap.size W w' from
    Bytes_0 W 1 (by decide) { data := #[97] } { data := #[98] } [97] [98] (by decide +kernel) (by decide +kernel) (by decide +kernel) (by decide +kernel) (by decide) (by decide) ka 2017 (zeros 2017) hk none 0 sa 3373 (zeros 3373) hs l hl))
  have HPA := Lib.hid (fun (W : World) (a : Option Addr) (n c : Nat) (h : BIn W a n c l) => parse_live (dec_back hl) htl h)
  have HPB := Lib.hid (fun (W : World) (a : Option Addr) (c : Nat) (h : BIn W a 2 c [48, 0]) => Parse_bad0 W a c h)
  clear hl htl
  generalize zeros 2017 = z1 at *
  generalize zeros 3373 = z2 at *
  generalize natsV .u8 z1 = L1 at *
  generalize natsV .u8 z2 = L2 at *
  go_enter Tryz.func10, Tryz.ntmps10
  go_wp2_with fail
  go_cut [1] from 10 to 12 (fun v1 wx => ∃ (gC gA gB : Nat), v1 = .pointer (some ⟨gC, 0, none⟩) ∧ Blk wx gC 26 [.int .u64 1, .string { data := #[97] }, .string { data := #[98] }, .slice (some ⟨gA, 0, none⟩) 2017 2017, .slice none 0 0, .slice (some ⟨gB, 0, none⟩) 3373 3373] ∧ Blk wx gA 5 L1 ∧ Blk wx gB 5 L2 ∧ w.heap.size ≤ gC ∧ Below w.heap.size w wx)
  case first =>
    refine wp_region_L (fun w_ => Below w.heap.size w w_) [] [2] (by kernel_rfl) (Below.refl _ _).drew ?_
    refine wpAnyL_three (i := 0) (j := 1) (k := 3) (by kernel_rfl) (by decide) (by decide) (by decide) (fun V1 hv1 hS1 => ?_) (fun V1 hv1 hS1 => ?_) (fun V1 hv1 hS1 => ?_)
    · refine wpOp_run (i := 0) (v := .slice (some ⟨V1.heap.size, 0, none⟩) 2017 2017) (W2 := V1.alloc (.cells L1.toArray 5)) rfl (by rfl) (by have q := mkA V1; go_simp; first | done | rfl) ?_
      have hS1_ := hS1.alloc hS1.size (.cells L1.toArray 5)
      refine ⟨hS1_, ?_⟩
      try simp only [Act.put, List.getElem_toArray, List.getElem_cons_succ, List.getElem_cons_zero, List.setIfInBounds_toArray, List.set_cons_zero, List.set_cons_succ]
      have HA := Blk.new V1 5 L1
      refine wpAnyL_two (i := 1) (j := 3) (by kernel_rfl) (by decide) (by decide) (fun V2 hv2 hS2 => ?_) (fun V2 hv2 hS2 => ?_)
      · have HA := HA.gr hv2
        refine wpOp_run (i := 1) (v := .slice (some ⟨V2.heap.size, 0, none⟩) 3373 3373) (W2 := V2.alloc (.cells L2.toArray 5)) rfl (by rfl) (by have q := mkB V2; go_simp; first | done | rfl) ?_
        have hS2_ := hS2.alloc hS2.size (.cells L2.toArray 5)
        refine ⟨hS2_, ?_⟩
        try simp only [Act.put, List.getElem_toArray, List.getElem_cons_succ, List.getElem_cons_zero, List.setIfInBounds_toArray, List.set_cons_zero, List.set_cons_succ]
        have HB := Blk.new V2 5 L2
        have HA := HA.alloc (.cells L2.toArray 5)
        refine wpAnyL_pure (fun _ _ hS_ hb_ => gr_bel hS_ hb_) (i := 2) rfl (by kernel_rfl) (fun _ _ _ h => h) (buildG (by rfl) _ _ rfl #[.int .u64 1, .string { data := #[97] }, .string { data := #[98] }, .slice (some ⟨V1.heap.size, 0, none⟩) 2017 2017, .slice none 0 0, .slice (some ⟨V2.heap.size, 0, none⟩) 3373 3373] (L := [(0, .int .u64 1), (1, .string { data := #[97] }), (2, .string { data := #[98] }), (3, .slice (some ⟨V1.heap.size, 0, none⟩) 2017 2017), (5, .slice (some ⟨V2.heap.size, 0, none⟩) 3373 3373)]) (by kernel_rfl) (by simp [Act.eval])) ?_
        try simp only [Act.put, List.getElem_toArray, List.getElem_cons_succ, List.getElem_cons_zero, List.setIfInBounds_toArray, List.set_cons_zero, List.set_cons_succ]
        refine wpAnyL_one (i := 3) (by kernel_rfl) (by decide) fun V3 hv3 hS3 => ?_
        have HA := HA.gr hv3
        have HB := HB.gr hv3
        refine wpOp_alloc (i := 3) rfl (by rfl) rfl [.int .u64 0, .string { data := #[] }, .string { data := #[] }, .slice none 0 0, .slice none 0 0, .slice none 0 0] (by intro w_; go_simp; first | done | rfl) ?_
        have hS3_ := hS3.alloc hS3.size (.cells [.int .u64 0, .string { data := #[] }, .string { data := #[] }, .slice none 0 0, .slice none 0 0, .slice none 0 0].toArray 26)
        refine ⟨hS3_, ?_⟩
        try simp only [Act.put, List.getElem_toArray, List.getElem_cons_succ, List.getElem_cons_zero, List.setIfInBounds_toArray, List.set_cons_zero, List.set_cons_succ]
        have HC := Blk.new V3 26 [.int .u64 0, .string { data := #[] }, .string { data := #[] }, .slice none 0 0, .slice none 0 0, .slice none 0 0]
        have hC : w.heap.size ≤ V3.heap.size := hS3.size
        have HA := HA.alloc (.cells [.int .u64 0, .string { data := #[] }, .string { data := #[] }, .slice none 0 0, .slice none 0 0, .slice none 0 0].toArray 26)
        have HB := HB.alloc (.cells [.int .u64 0, .string { data := #[] }, .string { data := #[] }, .slice none 0 0, .slice none 0 0, .slice none 0 0].toArray 26)
        refine wpAnyL_one (i := 4) (by kernel_rfl) (by decide) fun V4 hv4 hS4 => ?_
        have HA := HA.gr hv4
        have HB := HB.gr hv4
        have HC := HC.gr hv4
        refine (StoresG.mk (g := V3.heap.size) (t := 26) (cs := [.int .u64 1, .string { data := #[97] }, .string { data := #[98] }, .slice (some ⟨V1.heap.size, 0, none⟩) 2017 2017, .slice none 0 0, .slice (some ⟨V2.heap.size, 0, none⟩) 3373 3373]) (by rfl) _ _ _ rfl rfl rfl info55 (by intro v hv; simp at hv; rcases hv with rfl | rfl | rfl | rfl | rfl | rfl <;> rfl)).wpOp (i := 4) rfl HC rfl ?_
        have hS4_ := below_setRow' hS4 hC #[.int .u64 1, .string { data := #[97] }, .string { data := #[98] }, .slice (some ⟨V1.heap.size, 0, none⟩) 2017 2017, .slice none 0 0, .slice (some ⟨V2.heap.size, 0, none⟩) 3373 3373]
        refine ⟨hS4_, ?_⟩
        try simp only [Act.put, List.getElem_toArray, List.getElem_cons_succ, List.getElem_cons_zero, List.setIfInBounds_toArray, List.set_cons_zero, List.set_cons_succ]
        have hnA := Blk.ne_type HA HC (by decide)
        have hnB := Blk.ne_type HB HC (by decide)
        have HA := HA.row #[.int .u64 1, .string { data := #[97] }, .string { data := #[98] }, .slice (some ⟨V1.heap.size, 0, none⟩) 2017 2017, .slice none 0 0, .slice (some ⟨V2.heap.size, 0, none⟩) 3373 3373] hnA
        have HB := HB.row #[.int .u64 1, .string { data := #[97] }, .string { data := #[98] }, .slice (some ⟨V1.heap.size, 0, none⟩) 2017 2017, .slice none 0 0, .slice (some ⟨V2.heap.size, 0, none⟩) 3373 3373] hnB
        have HC := HC.setRow [.int .u64 1, .string { data := #[97] }, .string { data := #[98] }, .slice (some ⟨V1.heap.size, 0, none⟩) 2017 2017, .slice none 0 0, .slice (some ⟨V2.heap.size, 0, none⟩) 3373 3373]
        refine wpAnyL_done (by kernel_rfl) ?_ _
        intro W9 hg9
        have HAZ := HA.gr hg9
        have HBZ := HB.gr hg9
        have HCq := HC.gr hg9
        have hSZ := (hS4_).trans (Below.mono hg9 (Below.size hS4_))
        go_wp2_with fail
        go_meet
        exact ⟨V3.heap.size, V1.heap.size, V2.heap.size, rfl, HCq, HAZ, HBZ, hC, hSZ⟩
      · have HA := HA.gr hv2
        refine wpOp_alloc (i := 3) rfl (by rfl) rfl [.int .u64 0, .string { data := #[] }, .string { data := #[] }, .slice none 0 0, .slice none 0 0, .slice none 0 0] (by intro w_; go_simp; first | done | rfl) ?_
        have hS2_ := hS2.alloc hS2.size (.cells [.int .u64 0, .string { data := #[] }, .string { data := #[] }, .slice none 0 0, .slice none 0 0, .slice none 0 0].toArray 26)
        refine ⟨hS2_, ?_⟩
        try simp only [Act.put, List.getElem_toArray, List.getElem_cons_succ, List.getElem_cons_zero, List.setIfInBounds_toArray, List.set_cons_zero, List.set_cons_succ]
        have HC := Blk.new V2 26 [.int .u64 0, .string { data := #[] }, .string { data := #[] }, .slice none 0 0, .slice none 0 0, .slice none 0 0]
        have hC : w.heap.size ≤ V2.heap.size := hS2.size
        have HA := HA.alloc (.cells [.int .u64 0, .string { data := #[] }, .string { data := #[] }, .slice none 0 0, .slice none 0 0, .slice none 0 0].toArray 26)
        refine wpAnyL_one (i := 1) (by kernel_rfl) (by decide) fun V3 hv3 hS3 => ?_
        have HA := HA.gr hv3
        have HC := HC.gr hv3
        refine wpOp_run (i := 1) (v := .slice (some ⟨V3.heap.size, 0, none⟩) 3373 3373) (W2 := V3.alloc (.cells L2.toArray 5)) rfl (by rfl) (by have q := mkB V3; go_simp; first | done | rfl) ?_
        have hS3_ := hS3.alloc hS3.size (.cells L2.toArray 5)
        refine ⟨hS3_, ?_⟩
        try simp only [Act.put, List.getElem_toArray, List.getElem_cons_succ, List.getElem_cons_zero, List.setIfInBounds_toArray, List.set_cons_zero, List.set_cons_succ]
        have HB := Blk.new V3 5 L2
        have HA := HA.alloc (.cells L2.toArray 5)
        have HC := HC.alloc (.cells L2.toArray 5)
        refine wpAnyL_pure (fun _ _ hS_ hb_ => gr_bel hS_ hb_) (i := 2) rfl (by kernel_rfl) (fun _ _ _ h => h) (buildG (by rfl) _ _ rfl #[.int .u64 1, .string { data := #[97] }, .string { data := #[98] }, .slice (some ⟨V1.heap.size, 0, none⟩) 2017 2017, .slice none 0 0, .slice (some ⟨V3.heap.size, 0, none⟩) 3373 3373] (L := [(0, .int .u64 1), (1, .string { data := #[97] }), (2, .string { data := #[98] }), (3, .slice (some ⟨V1.heap.size, 0, none⟩) 2017 2017), (5, .slice (some ⟨V3.heap.size, 0, none⟩) 3373 3373)]) (by kernel_rfl) (by simp [Act.eval])) ?_
        try simp only [Act.put, List.getElem_toArray, List.getElem_cons_succ, List.getElem_cons_zero, List.setIfInBounds_toArray, List.set_cons_zero, List.set_cons_succ]
        refine wpAnyL_one (i := 4) (by kernel_rfl) (by decide) fun V4 hv4 hS4 => ?_
        have HA := HA.gr hv4
        have HB := HB.gr hv4
        have HC := HC.gr hv4
        refine (StoresG.mk (g := V2.heap.size) (t := 26) (cs := [.int .u64 1, .string { data := #[97] }, .string { data := #[98] }, .slice (some ⟨V1.heap.size, 0, none⟩) 2017 2017, .slice none 0 0, .slice (some ⟨V3.heap.size, 0, none⟩) 3373 3373]) (by rfl) _ _ _ rfl rfl rfl info55 (by intro v hv; simp at hv; rcases hv with rfl | rfl | rfl | rfl | rfl | rfl <;> rfl)).wpOp (i := 4) rfl HC rfl ?_
        have hS4_ := below_setRow' hS4 hC #[.int .u64 1, .string { data := #[97] }, .string { data := #[98] }, .slice (some ⟨V1.heap.size, 0, none⟩) 2017 2017, .slice none 0 0, .slice (some ⟨V3.heap.size, 0, none⟩) 3373 3373]
        refine ⟨hS4_, ?_⟩
        try simp only [Act.put, List.getElem_toArray, List.getElem_cons_succ, List.getElem_cons_zero, List.setIfInBounds_toArray, List.set_cons_zero, List.set_cons_succ]
        have hnA := Blk.ne_type HA HC (by decide)
        have hnB := Blk.ne_type HB HC (by decide)
        have HA := HA.row #[.int .u64 1, .string { data := #[97] }, .string { data := #[98] }, .slice (some ⟨V1.heap.size, 0, none⟩) 2017 2017, .slice none 0 0, .slice (some ⟨V3.heap.size, 0, none⟩) 3373 3373] hnA
        have HB := HB.row #[.int .u64 1, .string { data := #[97] }, .string { data := #[98] }, .slice (some ⟨V1.heap.size, 0, none⟩) 2017 2017, .slice none 0 0, .slice (some ⟨V3.heap.size, 0, none⟩) 3373 3373] hnB
        have HC := HC.setRow [.int .u64 1, .string { data := #[97] }, .string { data := #[98] }, .slice (some ⟨V1.heap.size, 0, none⟩) 2017 2017, .slice none 0 0, .slice (some ⟨V3.heap.size, 0, none⟩) 3373 3373]
        refine wpAnyL_done (by kernel_rfl) ?_ _
        intro W9 hg9
        have HAZ := HA.gr hg9
        have HBZ := HB.gr hg9
        have HCq := HC.gr hg9
        have hSZ := (hS4_).trans (Below.mono hg9 (Below.size hS4_))
        go_wp2_with fail
        go_meet
        exact ⟨V2.heap.size, V1.heap.size, V3.heap.size, rfl, HCq, HAZ, HBZ, hC, hSZ⟩
    · refine wpOp_run (i := 1) (v := .slice (some ⟨V1.heap.size, 0, none⟩) 3373 3373) (W2 := V1.alloc (.cells L2.toArray 5)) rfl (by rfl) (by have q := mkB V1; go_simp; first | done | rfl) ?_
      have hS1_ := hS1.alloc hS1.size (.cells L2.toArray 5)
      refine ⟨hS1_, ?_⟩
      try simp only [Act.put, List.getElem_toArray, List.getElem_cons_succ, List.getElem_cons_zero, List.setIfInBounds_toArray, List.set_cons_zero, List.set_cons_succ]
      have HB := Blk.new V1 5 L2
      refine wpAnyL_two (i := 0) (j := 3) (by kernel_rfl) (by decide) (by decide) (fun V2 hv2 hS2 => ?_) (fun V2 hv2 hS2 => ?_)
      · have HB := HB.gr hv2
        refine wpOp_run (i := 0) (v := .slice (some ⟨V2.heap.size, 0, none⟩) 2017 2017) (W2 := V2.alloc (.cells L1.toArray 5)) rfl (by rfl) (by have q := mkA V2; go_simp; first | done | rfl) ?_
        have hS2_ := hS2.alloc hS2.size (.cells L1.toArray 5)
        refine ⟨hS2_, ?_⟩
        try simp only [Act.put, List.getElem_toArray, List.getElem_cons_succ, List.getElem_cons_zero, List.setIfInBounds_toArray, List.set_cons_zero, List.set_cons_succ]
        have HA := Blk.new V2 5 L1
        have HB := HB.alloc (.cells L1.toArray 5)
        refine wpAnyL_pure (fun _ _ hS_ hb_ => gr_bel hS_ hb_) (i := 2) rfl (by kernel_rfl) (fun _ _ _ h => h) (buildG (by rfl) _ _ rfl #[.int .u64 1, .string { data := #[97] }, .string { data := #[98] }, .slice (some ⟨V2.heap.size, 0, none⟩) 2017 2017, .slice none 0 0, .slice (some ⟨V1.heap.size, 0, none⟩) 3373 3373] (L := [(0, .int .u64 1), (1, .string { data := #[97] }), (2, .string { data := #[98] }), (3, .slice (some ⟨V2.heap.size, 0, none⟩) 2017 2017), (5, .slice (some ⟨V1.heap.size, 0, none⟩) 3373 3373)]) (by kernel_rfl) (by simp [Act.eval])) ?_
        try simp only [Act.put, List.getElem_toArray, List.getElem_cons_succ, List.getElem_cons_zero, List.setIfInBounds_toArray, List.set_cons_zero, List.set_cons_succ]
        refine wpAnyL_one (i := 3) (by kernel_rfl) (by decide) fun V3 hv3 hS3 => ?_
        have HA := HA.gr hv3
        have HB := HB.gr hv3
        refine wpOp_alloc (i := 3) rfl (by rfl) rfl [.int .u64 0, .string { data := #[] }, .string { data := #[] }, .slice none 0 0, .slice none 0 0, .slice none 0 0] (by intro w_; go_simp; first | done | rfl) ?_
        have hS3_ := hS3.alloc hS3.size (.cells [.int .u64 0, .string { data := #[] }, .string { data := #[] }, .slice none 0 0, .slice none 0 0, .slice none 0 0].toArray 26)
        refine ⟨hS3_, ?_⟩
        try simp only [Act.put, List.getElem_toArray, List.getElem_cons_succ, List.getElem_cons_zero, List.setIfInBounds_toArray, List.set_cons_zero, List.set_cons_succ]
        have HC := Blk.new V3 26 [.int .u64 0, .string { data := #[] }, .string { data := #[] }, .slice none 0 0, .slice none 0 0, .slice none 0 0]
        have hC : w.heap.size ≤ V3.heap.size := hS3.size
        have HA := HA.alloc (.cells [.int .u64 0, .string { data := #[] }, .string { data := #[] }, .slice none 0 0, .slice none 0 0, .slice none 0 0].toArray 26)
        have HB := HB.alloc (.cells [.int .u64 0, .string { data := #[] }, .string { data := #[] }, .slice none 0 0, .slice none 0 0, .slice none 0 0].toArray 26)
        refine wpAnyL_one (i := 4) (by kernel_rfl) (by decide) fun V4 hv4 hS4 => ?_
        have HA := HA.gr hv4
        have HB := HB.gr hv4
        have HC := HC.gr hv4
        refine (StoresG.mk (g := V3.heap.size) (t := 26) (cs := [.int .u64 1, .string { data := #[97] }, .string { data := #[98] }, .slice (some ⟨V2.heap.size, 0, none⟩) 2017 2017, .slice none 0 0, .slice (some ⟨V1.heap.size, 0, none⟩) 3373 3373]) (by rfl) _ _ _ rfl rfl rfl info55 (by intro v hv; simp at hv; rcases hv with rfl | rfl | rfl | rfl | rfl | rfl <;> rfl)).wpOp (i := 4) rfl HC rfl ?_
        have hS4_ := below_setRow' hS4 hC #[.int .u64 1, .string { data := #[97] }, .string { data := #[98] }, .slice (some ⟨V2.heap.size, 0, none⟩) 2017 2017, .slice none 0 0, .slice (some ⟨V1.heap.size, 0, none⟩) 3373 3373]
        refine ⟨hS4_, ?_⟩
        try simp only [Act.put, List.getElem_toArray, List.getElem_cons_succ, List.getElem_cons_zero, List.setIfInBounds_toArray, List.set_cons_zero, List.set_cons_succ]
        have hnA := Blk.ne_type HA HC (by decide)
        have hnB := Blk.ne_type HB HC (by decide)
        have HA := HA.row #[.int .u64 1, .string { data := #[97] }, .string { data := #[98] }, .slice (some ⟨V2.heap.size, 0, none⟩) 2017 2017, .slice none 0 0, .slice (some ⟨V1.heap.size, 0, none⟩) 3373 3373] hnA
        have HB := HB.row #[.int .u64 1, .string { data := #[97] }, .string { data := #[98] }, .slice (some ⟨V2.heap.size, 0, none⟩) 2017 2017, .slice none 0 0, .slice (some ⟨V1.heap.size, 0, none⟩) 3373 3373] hnB
        have HC := HC.setRow [.int .u64 1, .string { data := #[97] }, .string { data := #[98] }, .slice (some ⟨V2.heap.size, 0, none⟩) 2017 2017, .slice none 0 0, .slice (some ⟨V1.heap.size, 0, none⟩) 3373 3373]
        refine wpAnyL_done (by kernel_rfl) ?_ _
        intro W9 hg9
        have HAZ := HA.gr hg9
        have HBZ := HB.gr hg9
        have HCq := HC.gr hg9
        have hSZ := (hS4_).trans (Below.mono hg9 (Below.size hS4_))
        go_wp2_with fail
        go_meet
        exact ⟨V3.heap.size, V2.heap.size, V1.heap.size, rfl, HCq, HAZ, HBZ, hC, hSZ⟩
      · have HB := HB.gr hv2
        refine wpOp_alloc (i := 3) rfl (by rfl) rfl [.int .u64 0, .string { data := #[] }, .string { data := #[] }, .slice none 0 0, .slice none 0 0, .slice none 0 0] (by intro w_; go_simp; first | done | rfl) ?_
        have hS2_ := hS2.alloc hS2.size (.cells [.int .u64 0, .string { data := #[] }, .string { data := #[] }, .slice none 0 0, .slice none 0 0, .slice none 0 0].toArray 26)
        refine ⟨hS2_, ?_⟩
        try simp only [Act.put, List.getElem_toArray, List.getElem_cons_succ, List.getElem_cons_zero, List.setIfInBounds_toArray, List.set_cons_zero, List.set_cons_succ]
        have HC := Blk.new V2 26 [.int .u64 0, .string { data := #[] }, .string { data := #[] }, .slice none 0 0, .slice none 0 0, .slice none 0 0]
        have hC : w.heap.size ≤ V2.heap.size := hS2.size
        have HB := HB.alloc (.cells [.int .u64 0, .string { data := #[] }, .string { data := #[] }, .slice none 0 0, .slice none 0 0, .slice none 0 0].toArray 26)
        refine wpAnyL_one (i := 0) (by kernel_rfl) (by decide) fun V3 hv3 hS3 => ?_
        have HB := HB.gr hv3
        have HC := HC.gr hv3
        refine wpOp_run (i := 0) (v := .slice (some ⟨V3.heap.size, 0, none⟩) 2017 2017) (W2 := V3.alloc (.cells L1.toArray 5)) rfl (by rfl) (by have q := mkA V3; go_simp; first | done | rfl) ?_
        have hS3_ := hS3.alloc hS3.size (.cells L1.toArray 5)
        refine ⟨hS3_, ?_⟩
        try simp only [Act.put, List.getElem_toArray, List.getElem_cons_succ, List.getElem_cons_zero, List.setIfInBounds_toArray, List.set_cons_zero, List.set_cons_succ]
        have HA := Blk.new V3 5 L1
        have HB := HB.alloc (.cells L1.toArray 5)
        have HC := HC.alloc (.cells L1.toArray 5)
        refine wpAnyL_pure (fun _ _ hS_ hb_ => gr_bel hS_ hb_) (i := 2) rfl (by kernel_rfl) (fun _ _ _ h => h) (buildG (by rfl) _ _ rfl #[.int .u64 1, .string { data := #[97] }, .string { data := #[98] }, .slice (some ⟨V3.heap.size, 0, none⟩) 2017 2017, .slice none 0 0, .slice (some ⟨V1.heap.size, 0, none⟩) 3373 3373] (L := [(0, .int .u64 1), (1, .string { data := #[97] }), (2, .string { data := #[98] }), (3, .slice (some ⟨V3.heap.size, 0, none⟩) 2017 2017), (5, .slice (some ⟨V1.heap.size, 0, none⟩) 3373 3373)]) (by kernel_rfl) (by simp [Act.eval])) ?_
        try simp only [Act.put, List.getElem_toArray, List.getElem_cons_succ, List.getElem_cons_zero, List.setIfInBounds_toArray, List.set_cons_zero, List.set_cons_succ]
        refine wpAnyL_one (i := 4) (by kernel_rfl) (by decide) fun V4 hv4 hS4 => ?_
        have HA := HA.gr hv4
        have HB := HB.gr hv4
        have HC := HC.gr hv4
        refine (StoresG.mk (g := V2.heap.size) (t := 26) (cs := [.int .u64 1, .string { data := #[97] }, .string { data := #[98] }, .slice (some ⟨V3.heap.size, 0, none⟩) 2017 2017, .slice none 0 0, .slice (some ⟨V1.heap.size, 0, none⟩) 3373 3373]) (by rfl) _ _ _ rfl rfl rfl info55 (by intro v hv; simp at hv; rcases hv with rfl | rfl | rfl | rfl | rfl | rfl <;> rfl)).wpOp (i := 4) rfl HC rfl ?_
        have hS4_ := below_setRow' hS4 hC #[.int .u64 1, .string { data := #[97] }, .string { data := #[98] }, .slice (some ⟨V3.heap.size, 0, none⟩) 2017 2017, .slice none 0 0, .slice (some ⟨V1.heap.size, 0, none⟩) 3373 3373]
        refine ⟨hS4_, ?_⟩
        try simp only [Act.put, List.getElem_toArray, List.getElem_cons_succ, List.getElem_cons_zero, List.setIfInBounds_toArray, List.set_cons_zero, List.set_cons_succ]
        have hnA := Blk.ne_type HA HC (by decide)
        have hnB := Blk.ne_type HB HC (by decide)
        have HA := HA.row #[.int .u64 1, .string { data := #[97] }, .string { data := #[98] }, .slice (some ⟨V3.heap.size, 0, none⟩) 2017 2017, .slice none 0 0, .slice (some ⟨V1.heap.size, 0, none⟩) 3373 3373] hnA
        have HB := HB.row #[.int .u64 1, .string { data := #[97] }, .string { data := #[98] }, .slice (some ⟨V3.heap.size, 0, none⟩) 2017 2017, .slice none 0 0, .slice (some ⟨V1.heap.size, 0, none⟩) 3373 3373] hnB
        have HC := HC.setRow [.int .u64 1, .string { data := #[97] }, .string { data := #[98] }, .slice (some ⟨V3.heap.size, 0, none⟩) 2017 2017, .slice none 0 0, .slice (some ⟨V1.heap.size, 0, none⟩) 3373 3373]
        refine wpAnyL_done (by kernel_rfl) ?_ _
        intro W9 hg9
        have HAZ := HA.gr hg9
        have HBZ := HB.gr hg9
        have HCq := HC.gr hg9
        have hSZ := (hS4_).trans (Below.mono hg9 (Below.size hS4_))
        go_wp2_with fail
        go_meet
        exact ⟨V2.heap.size, V3.heap.size, V1.heap.size, rfl, HCq, HAZ, HBZ, hC, hSZ⟩
    · refine wpOp_alloc (i := 3) rfl (by rfl) rfl [.int .u64 0, .string { data := #[] }, .string { data := #[] }, .slice none 0 0, .slice none 0 0, .slice none 0 0] (by intro w_; go_simp; first | done | rfl) ?_
      have hS1_ := hS1.alloc hS1.size (.cells [.int .u64 0, .string { data := #[] }, .string { data := #[] }, .slice none 0 0, .slice none 0 0, .slice none 0 0].toArray 26)
      refine ⟨hS1_, ?_⟩
      try simp only [Act.put, List.getElem_toArray, List.getElem_cons_succ, List.getElem_cons_zero, List.setIfInBounds_toArray, List.set_cons_zero, List.set_cons_succ]
      have HC := Blk.new V1 26 [.int .u64 0, .string { data := #[] }, .string { data := #[] }, .slice none 0 0, .slice none 0 0, .slice none 0 0]
      have hC : w.heap.size ≤ V1.heap.size := hS1.size
      refine wpAnyL_two (i := 0) (j := 1) (by kernel_rfl) (by decide) (by decide) (fun V2 hv2 hS2 => ?_) (fun V2 hv2 hS2 => ?_)
      · have HC := HC.gr hv2
        refine wpOp_run (i := 0) (v := .slice (some ⟨V2.heap.size, 0, none⟩) 2017 2017) (W2 := V2.alloc (.cells L1.toArray 5)) rfl (by rfl) (by have q := mkA V2; go_simp; first | done | rfl) ?_
        have hS2_ := hS2.alloc hS2.size (.cells L1.toArray 5)
        refine ⟨hS2_, ?_⟩
        try simp only [Act.put, List.getElem_toArray, List.getElem_cons_succ, List.getElem_cons_zero, List.setIfInBounds_toArray, List.set_cons_zero, List.set_cons_succ]
        have HA := Blk.new V2 5 L1
        have HC := HC.alloc (.cells L1.toArray 5)
        refine wpAnyL_one (i := 1) (by kernel_rfl) (by decide) fun V3 hv3 hS3 => ?_
        have HA := HA.gr hv3
        have HC := HC.gr hv3
        refine wpOp_run (i := 1) (v := .slice (some ⟨V3.heap.size, 0, none⟩) 3373 3373) (W2 := V3.alloc (.cells L2.toArray 5)) rfl (by rfl) (by have q := mkB V3; go_simp; first | done | rfl) ?_
        have hS3_ := hS3.alloc hS3.size (.cells L2.toArray 5)
        refine ⟨hS3_, ?_⟩
        try simp only [Act.put, List.getElem_toArray, List.getElem_cons_succ, List.getElem_cons_zero, List.setIfInBounds_toArray, List.set_cons_zero, List.set_cons_succ]
        have HB := Blk.new V3 5 L2
        have HA := HA.alloc (.cells L2.toArray 5)
        have HC := HC.alloc (.cells L2.toArray 5)
        refine wpAnyL_pure (fun _ _ hS_ hb_ => gr_bel hS_ hb_) (i := 2) rfl (by kernel_rfl) (fun _ _ _ h => h) (buildG (by rfl) _ _ rfl #[.int .u64 1, .string { data := #[97] }, .string { data := #[98] }, .slice (some ⟨V2.heap.size, 0, none⟩) 2017 2017, .slice none 0 0, .slice (some ⟨V3.heap.size, 0, none⟩) 3373 3373] (L := [(0, .int .u64 1), (1, .string { data := #[97] }), (2, .string { data := #[98] }), (3, .slice (some ⟨V2.heap.size, 0, none⟩) 2017 2017), (5, .slice (some ⟨V3.heap.size, 0, none⟩) 3373 3373)]) (by kernel_rfl) (by simp [Act.eval])) ?_
        try simp only [Act.put, List.getElem_toArray, List.getElem_cons_succ, List.getElem_cons_zero, List.setIfInBounds_toArray, List.set_cons_zero, List.set_cons_succ]
        refine wpAnyL_one (i := 4) (by kernel_rfl) (by decide) fun V4 hv4 hS4 => ?_
        have HA := HA.gr hv4
        have HB := HB.gr hv4
        have HC := HC.gr hv4
        refine (StoresG.mk (g := V1.heap.size) (t := 26) (cs := [.int .u64 1, .string { data := #[97] }, .string { data := #[98] }, .slice (some ⟨V2.heap.size, 0, none⟩) 2017 2017, .slice none 0 0, .slice (some ⟨V3.heap.size, 0, none⟩) 3373 3373]) (by rfl) _ _ _ rfl rfl rfl info55 (by intro v hv; simp at hv; rcases hv with rfl | rfl | rfl | rfl | rfl | rfl <;> rfl)).wpOp (i := 4) rfl HC rfl ?_
        have hS4_ := below_setRow' hS4 hC #[.int .u64 1, .string { data := #[97] }, .string { data := #[98] }, .slice (some ⟨V2.heap.size, 0, none⟩) 2017 2017, .slice none 0 0, .slice (some ⟨V3.heap.size, 0, none⟩) 3373 3373]
        refine ⟨hS4_, ?_⟩
        try simp only [Act.put, List.getElem_toArray, List.getElem_cons_succ, List.getElem_cons_zero, List.setIfInBounds_toArray, List.set_cons_zero, List.set_cons_succ]
        have hnA := Blk.ne_type HA HC (by decide)
        have hnB := Blk.ne_type HB HC (by decide)
        have HA := HA.row #[.int .u64 1, .string { data := #[97] }, .string { data := #[98] }, .slice (some ⟨V2.heap.size, 0, none⟩) 2017 2017, .slice none 0 0, .slice (some ⟨V3.heap.size, 0, none⟩) 3373 3373] hnA
        have HB := HB.row #[.int .u64 1, .string { data := #[97] }, .string { data := #[98] }, .slice (some ⟨V2.heap.size, 0, none⟩) 2017 2017, .slice none 0 0, .slice (some ⟨V3.heap.size, 0, none⟩) 3373 3373] hnB
        have HC := HC.setRow [.int .u64 1, .string { data := #[97] }, .string { data := #[98] }, .slice (some ⟨V2.heap.size, 0, none⟩) 2017 2017, .slice none 0 0, .slice (some ⟨V3.heap.size, 0, none⟩) 3373 3373]
        refine wpAnyL_done (by kernel_rfl) ?_ _
        intro W9 hg9
        have HAZ := HA.gr hg9
        have HBZ := HB.gr hg9
        have HCq := HC.gr hg9
        have hSZ := (hS4_).trans (Below.mono hg9 (Below.size hS4_))
        go_wp2_with fail
        go_meet
        exact ⟨V1.heap.size, V2.heap.size, V3.heap.size, rfl, HCq, HAZ, HBZ, hC, hSZ⟩
      · have HC := HC.gr hv2
        refine wpOp_run (i := 1) (v := .slice (some ⟨V2.heap.size, 0, none⟩) 3373 3373) (W2 := V2.alloc (.cells L2.toArray 5)) rfl (by rfl) (by have q := mkB V2; go_simp; first | done | rfl) ?_
        have hS2_ := hS2.alloc hS2.size (.cells L2.toArray 5)
        refine ⟨hS2_, ?_⟩
        try simp only [Act.put, List.getElem_toArray, List.getElem_cons_succ, List.getElem_cons_zero, List.setIfInBounds_toArray, List.set_cons_zero, List.set_cons_succ]
        have HB := Blk.new V2 5 L2
        have HC := HC.alloc (.cells L2.toArray 5)
        refine wpAnyL_one (i := 0) (by kernel_rfl) (by decide) fun V3 hv3 hS3 => ?_
        have HB := HB.gr hv3
        have HC := HC.gr hv3
        refine wpOp_run (i := 0) (v := .slice (some ⟨V3.heap.size, 0, none⟩) 2017 2017) (W2 := V3.alloc (.cells L1.toArray 5)) rfl (by rfl) (by have q := mkA V3; go_simp; first | done | rfl) ?_
        have hS3_ := hS3.alloc hS3.size (.cells L1.toArray 5)
        refine ⟨hS3_, ?_⟩
        try simp only [Act.put, List.getElem_toArray, List.getElem_cons_succ, List.getElem_cons_zero, List.setIfInBounds_toArray, List.set_cons_zero, List.set_cons_succ]
        have HA := Blk.new V3 5 L1
        have HB := HB.alloc (.cells L1.toArray 5)
        have HC := HC.alloc (.cells L1.toArray 5)
        refine wpAnyL_pure (fun _ _ hS_ hb_ => gr_bel hS_ hb_) (i := 2) rfl (by kernel_rfl) (fun _ _ _ h => h) (buildG (by rfl) _ _ rfl #[.int .u64 1, .string { data := #[97] }, .string { data := #[98] }, .slice (some ⟨V3.heap.size, 0, none⟩) 2017 2017, .slice none 0 0, .slice (some ⟨V2.heap.size, 0, none⟩) 3373 3373] (L := [(0, .int .u64 1), (1, .string { data := #[97] }), (2, .string { data := #[98] }), (3, .slice (some ⟨V3.heap.size, 0, none⟩) 2017 2017), (5, .slice (some ⟨V2.heap.size, 0, none⟩) 3373 3373)]) (by kernel_rfl) (by simp [Act.eval])) ?_
        try simp only [Act.put, List.getElem_toArray, List.getElem_cons_succ, List.getElem_cons_zero, List.setIfInBounds_toArray, List.set_cons_zero, List.set_cons_succ]
        refine wpAnyL_one (i := 4) (by kernel_rfl) (by decide) fun V4 hv4 hS4 => ?_
        have HA := HA.gr hv4
        have HB := HB.gr hv4
        have HC := HC.gr hv4
        refine (StoresG.mk (g := V1.heap.size) (t := 26) (cs := [.int .u64 1, .string { data := #[97] }, .string { data := #[98] }, .slice (some ⟨V3.heap.size, 0, none⟩) 2017 2017, .slice none 0 0, .slice (some ⟨V2.heap.size, 0, none⟩) 3373 3373]) (by rfl) _ _ _ rfl rfl rfl info55 (by intro v hv; simp at hv; rcases hv with rfl | rfl | rfl | rfl | rfl | rfl <;> rfl)).wpOp (i := 4) rfl HC rfl ?_
        have hS4_ := below_setRow' hS4 hC #[.int .u64 1, .string { data := #[97] }, .string { data := #[98] }, .slice (some ⟨V3.heap.size, 0, none⟩) 2017 2017, .slice none 0 0, .slice (some ⟨V2.heap.size, 0, none⟩) 3373 3373]
        refine ⟨hS4_, ?_⟩
        try simp only [Act.put, List.getElem_toArray, List.getElem_cons_succ, List.getElem_cons_zero, List.setIfInBounds_toArray, List.set_cons_zero, List.set_cons_succ]
        have hnA := Blk.ne_type HA HC (by decide)
        have hnB := Blk.ne_type HB HC (by decide)
        have HA := HA.row #[.int .u64 1, .string { data := #[97] }, .string { data := #[98] }, .slice (some ⟨V3.heap.size, 0, none⟩) 2017 2017, .slice none 0 0, .slice (some ⟨V2.heap.size, 0, none⟩) 3373 3373] hnA
        have HB := HB.row #[.int .u64 1, .string { data := #[97] }, .string { data := #[98] }, .slice (some ⟨V3.heap.size, 0, none⟩) 2017 2017, .slice none 0 0, .slice (some ⟨V2.heap.size, 0, none⟩) 3373 3373] hnB
        have HC := HC.setRow [.int .u64 1, .string { data := #[97] }, .string { data := #[98] }, .slice (some ⟨V3.heap.size, 0, none⟩) 2017 2017, .slice none 0 0, .slice (some ⟨V2.heap.size, 0, none⟩) 3373 3373]
        refine wpAnyL_done (by kernel_rfl) ?_ _
        intro W9 hg9
        have HAZ := HA.gr hg9
        have HBZ := HB.gr hg9
        have HCq := HC.gr hg9
        have hSZ := (hS4_).trans (Below.mono hg9 (Below.size hS4_))
        go_wp2_with fail
        go_meet
        exact ⟨V1.heap.size, V3.heap.size, V2.heap.size, rfl, HCq, HAZ, HBZ, hC, hSZ⟩
  case rest =>
    obtain ⟨gC, gA, gB, rfl, hC, hA, hB, hgC, hbel⟩ := hcut
    have HC := Lib.hid hC
    have HK := Lib.hid (binA.out _ _ hA)
    have HS := Lib.hid (binB.out _ _ hB)
    have H00 := Lib.hid hbel
    clear hC hA hB hbel mkA mkB binA binB
    generalize hWc : wc = Wc at *
    go_wp2_with (first | (refine wpList_load_row (P := Tryz.prog) rfl 26 (.tmp 1) rfl gC rfl 26 _ _ _ HC.out Tryz.underlying26 rfl info55 ?_) | (go_at_call 14; (with_reducible refine (HBY.out _ _ _ HK.out HS.out).mono ?_); rintro e w2 ⟨x2, y2, rfl, hl2, hb2⟩; have HL := Lib.hid hl2; have H02 := Lib.hid (H00.out.trans (Below.mono hb2 H00.out.size)); clear hl2 hb2) | (go_at_call 6; (with_reducible refine (HPA.out _ _ _ _ HL.out).mono ?_); rintro e w3 ⟨z, is, ka, kc, sa, sc, x3, m3, y3, rfl, hb3⟩; have H03 := Lib.hid (H02.out.trans (Below.mono hb3 H02.out.size)); clear hb3) | (refine wpList_store_row (P := Tryz.prog) rfl 26 (.tmp 4) (.tmp 21) rfl w3.heap.size #[.int .u64 z, .string is, .string { data := #[98] }, .slice ka 2017 kc, .slice none 0 0, .slice sa 3373 sc] rfl rfl 26 _ (Blk.new w3 26 [.int .u64 0, .string { data := #[] }, .string { data := #[] }, .slice none 0 0, .slice none 0 0, .slice none 0 0]) info55 rfl (all_cert _ _ _ _ _ _ _ _ _ _ _ _) ?_; have hb4 : Gr w3 ((w3.alloc (.cells #[.int .u64 0, .string { data := #[] }, .string { data := #[] }, .slice none 0 0, .slice none 0 0, .slice none 0 0] 26)).setRow w3.heap.size #[.int .u64 z, .string is, .string { data := #[98] }, .slice ka 2017 kc, .slice none 0 0, .slice sa 3373 sc]) := below_setRow' (Gr.alloc w3 _) (Nat.le_refl _) _; have HX := Lib.hid ((Blk.new w3 26 [.int .u64 0, .string { data := #[] }, .string { data := #[] }, .slice none 0 0, .slice none 0 0, .slice none 0 0]).setRow [.int .u64 z, .string is, .string { data := #[98] }, .slice ka 2017 kc, .slice none 0 0, .slice sa 3373 sc]); have H04 := Lib.hid (H03.out.trans (Below.mono hb4 H03.out.size)); clear hb4; generalize (w3.alloc (.cells #[.int .u64 0, .string { data := #[] }, .string { data := #[] }, .slice none 0 0, .slice none 0 0, .slice none 0 0] 26)).setRow w3.heap.size #[.int .u64 z, .string is, .string { data := #[98] }, .slice ka 2017 kc, .slice none 0 0, .slice sa 3373 sc] = w4 at *) | (go_at_call 6; (with_reducible refine (HPB.out _ _ _ (bin_two w4)).mono ?_); rintro e w5 ⟨rfl, hb5⟩; have hg5 : Gr w4 w5 := (Gr.alloc w4 _).trans hb5; have HX := Lib.hid (HX.out.below' hg5); have H05 := Lib.hid (H04.out.trans (Below.mono hg5 H04.out.size)); clear hb5 hg5) | (refine wpList_store_row (P := Tryz.prog) rfl 26 (.tmp 7) (.tmp 27) rfl w5.heap.size #[.int .u64 0, .string { data := #[] }, .string { data := #[] }, .slice none 0 0, .slice none 0 0, .slice none 0 0] rfl rfl 26 _ (Blk.new w5 26 [.int .u64 0, .string { data := #[] }, .string { data := #[] }, .slice none 0 0, .slice none 0 0, .slice none 0 0]) info55 rfl (all_cert _ _ _ _ _ _ _ _ _ _ _ _) ?_; have hb6 : Gr w5 ((w5.alloc (.cells #[.int .u64 0, .string { data := #[] }, .string { data := #[] }, .slice none 0 0, .slice none 0 0, .slice none 0 0] 26)).setRow w5.heap.size #[.int .u64 0, .string { data := #[] }, .string { data := #[] }, .slice none 0 0, .slice none 0 0, .slice none 0 0]) := below_setRow' (Gr.alloc w5 _) (Nat.le_refl _) _; have HX := Lib.hid (HX.out.below' hb6); have H06 := Lib.hid (H05.out.trans (Below.mono hb6 H05.out.size)); have kx := blkc HX.out (i := 2) rfl; clear hb6; generalize (w5.alloc (.cells #[.int .u64 0, .string { data := #[] }, .string { data := #[] }, .slice none 0 0, .slice none 0 0, .slice none 0 0] 26)).setRow w5.heap.size #[.int .u64 0, .string { data := #[] }, .string { data := #[] }, .slice none 0 0, .slice none 0 0, .slice none 0 0] = w6 at *))
    go_ret
    exact ⟨rfl, H06.out⟩
end Go.Proofs.YtbabpmncdphnjaaGreat
