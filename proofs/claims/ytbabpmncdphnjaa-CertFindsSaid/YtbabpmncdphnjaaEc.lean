/- The project's Encode. No condition. -/
import Derived.Test.YtbabpmncdphnjaaWr
import Derived.Test.YtbabpmncdphnjaaSz
import Derived.Test.YtbabpmncdphnjaaWy
namespace Go.Proofs.Ytbabpmncdphnjaa
open Go.RowKit
set_option linter.unusedVariables false
set_option maxRecDepth 100000

set_option maxHeartbeats 2000000 in
theorem catchE (p q : Nat) (c : Int) (v0 : Value) (x : Int) (w : World) (hne : p ≠ q) (hp : Blk w p 22 [v0]) (hq : Blk w q 26 [.int .i64 x]) :
    CallsD Try.prog 52 #[.pointer (some ⟨p, 0, none⟩), .pointer (some ⟨q, 0, none⟩)] (.panicking [{ v := .iface 26 (.int .i64 c), recovered := false }]) w fun e u' w' =>
      e = .returned (.tuple #[]) ∧ u' = .panicking [{ v := .iface 26 (.int .i64 c), recovered := true }] ∧ w' = (w.setCell ⟨p, 0, none⟩ (.slice none 0 0)).setCell ⟨q, 0, none⟩ (.int .i64 c) := by
  refine callsD_of_wpS Try.func52 rfl fun c₀ cs hu => ?_
  apply wpS_seq
  apply wpS_region
  simp [wpOpsS, go_sem, recoverD, hu, Try.ntmps52, Exit.thenS]
  refine wpS_of_wp ?_
  have e1 : (#[Value.pointer (some { block := p, off := 0 }), Value.pointer (some { block := q, off := 0 })] ++
          ((Array.replicate 6 undef).setIfInBounds 1 (Value.iface 26 (Value.int IntKind.i64 c))).setIfInBounds 0
            (Value.iface 26 (Value.int IntKind.i64 c))) = #[Value.pointer (some { block := p, off := 0 }), Value.pointer (some { block := q, off := 0 }), (Value.iface 26 (Value.int IntKind.i64 c)), (Value.iface 26 (Value.int IntKind.i64 c)), undef, undef, undef, undef] := rfl
  rw [e1]
  have hp1 := hp.cell 0
  have hp2 := hp.free 0
  have HQ := hq.other ⟨p, 0, none⟩ (.slice none 0 0) (Ne.symm hne)
  have hq1 := HQ.cell 0
  have hq2 := HQ.free 0
  simp at hp1 hq1
  clear hp hq HQ
  generalize hQ : (bodyPostS Try.prog Try.f52 c₀ cs fun e u' w' => _) = QQ
  have HQQ := Lib.hid hQ
  clear hQ
  go_wp2_with (go_at_call 48; refine (why_any c _).mono ?_; rintro e w' ⟨rfl, rfl⟩)
  rw [← HQQ.out]
  exact ⟨rfl, _, rfl, .tuple #[], by simp [results, Try.results52], rfl, rfl, rfl⟩
theorem idleE (p q : Addr) (w : World) :
    CallsD Try.prog 52 #[.pointer (some p), .pointer (some q)] .returning w fun e u' w' => e = .returned (.tuple #[]) ∧ u' = .returning ∧ w = w' := by
  refine callsD_of_wpS Try.func52 rfl fun c₀ cs hu => ?_
  apply wpS_seq
  apply wpS_region
  simp [wpOpsS, go_sem, recoverD, hu, Try.ntmps52, Exit.thenS]
  refine wpS_of_wp ?_
  generalize hQ : (bodyPostS Try.prog Try.f52 c₀ cs fun e u' w' => _) = QQ
  have HQQ := Lib.hid hQ
  clear hQ
  have e1 : (#[Value.pointer (some p), Value.pointer (some q)] ++ ((Array.replicate 6 undef).setIfInBounds 1 Value.nilIface).setIfInBounds 0 Value.nilIface) = #[Value.pointer (some p), Value.pointer (some q), Value.nilIface, Value.nilIface, undef, undef, undef, undef] := rfl
  rw [e1]
  go_wp2
  rw [← HQQ.out]
  exact ⟨rfl, c₀.mode, rfl, .tuple #[], by simp [results, Try.results52], rfl, hu, rfl⟩
theorem resE (tmps : Array Value) (p q : Nat) (a : Option Addr) (n c : Nat) (x : Int) (w : World) (h2 : tmps.getD 2 undef = .pointer (some ⟨p, 0, none⟩)) (h3 : tmps.getD 3 undef = .pointer (some ⟨q, 0, none⟩)) (hp : Blk w p 22 [.slice a n c]) (hq : Blk w q 26 [.int .i64 x]) :
    (results Try.f17 tmps).run Try.prog w = .ok (.tuple #[.slice a n c, .int .i64 x]) w := by
  have h2' : tmps[2]?.getD undef = .pointer (some ⟨p, 0, none⟩) := by simpa using h2
  have h3' : tmps[3]?.getD undef = .pointer (some ⟨q, 0, none⟩) := by simpa using h3
  have hq1 := hq.cell 0
  have hp1 := hp.cell 0
  simp at hq1 hp1
  have hl : (loadVar 22 ⟨p, 0, none⟩).run Try.prog w = .ok (.slice a n c) w := by simp [go_sem, hp1]
  have hl2 : (loadVar 26 ⟨q, 0, none⟩).run Try.prog w = .ok (.int .i64 x) w := by simp [go_sem, hq1]
  simp [results, Try.results17, h2', h3', asAddr, hl, hl2]
theorem exitE_bad {R : Ending → World → Prop} {tmps : Array Value} (p q : Nat) (c : Int) (v0 : Value) (x : Int) (wx : World) (hne : p ≠ q) (hp : Blk wx p 22 [v0]) (hq : Blk wx q 26 [.int .i64 x])
    (h2 : tmps.getD 2 undef = .pointer (some ⟨p, 0, none⟩)) (h3 : tmps.getD 3 undef = .pointer (some ⟨q, 0, none⟩))
    (hR : R (.returned (.tuple #[.slice none 0 0, .int .i64 c])) ((wx.setCell ⟨p, 0, none⟩ (.slice none 0 0)).setCell ⟨q, 0, none⟩ (.int .i64 c))) :
    bodyPostD Try.prog Try.f17 R (Exit.panic [{ v := .iface 26 (.int .i64 c), recovered := false }]) { tmps := tmps, defers := [{ target := Target.fn (Fn.func 52) #[.pointer (some ⟨p, 0, none⟩), .pointer (some ⟨q, 0, none⟩)], args := #[] }] } wx := by
  refine leaves_cons (f := 52) (args := #[.pointer (some ⟨p, 0, none⟩), .pointer (some ⟨q, 0, none⟩)]) (by simp) (by simp [go_sem]) ?_
  refine (catchE p q c v0 x _ hne hp hq).mono ?_
  rintro e u' w'' ⟨rfl, rfl, rfl⟩
  have hp2 := (hp.set 0 (.slice none 0 0)).other ⟨q, 0, none⟩ (.int .i64 c) hne
  have hq2 := (hq.other ⟨p, 0, none⟩ (.slice none 0 0) (Ne.symm hne)).set 0 (.int .i64 c)
  exact ⟨_, resE tmps p q none 0 0 c _ h2 h3 hp2 hq2, hR⟩
theorem exitE_good {R : Ending → World → Prop} {tmps : Array Value} (p q : Nat) (a : Option Addr) (n c : Nat) (x : Int) (wx : World) (hp : Blk wx p 22 [.slice a n c]) (hq : Blk wx q 26 [.int .i64 x])
    (h2 : tmps.getD 2 undef = .pointer (some ⟨p, 0, none⟩)) (h3 : tmps.getD 3 undef = .pointer (some ⟨q, 0, none⟩))
    (hR : R (.returned (.tuple #[.slice a n c, .int .i64 x])) wx) :
    bodyPostD Try.prog Try.f17 R Exit.ret { tmps := tmps, defers := [{ target := Target.fn (Fn.func 52) #[.pointer (some ⟨p, 0, none⟩), .pointer (some ⟨q, 0, none⟩)], args := #[] }] } wx := by
  refine leaves_cons (f := 52) (args := #[.pointer (some ⟨p, 0, none⟩), .pointer (some ⟨q, 0, none⟩)]) (by simp) (by simp [go_sem]) ?_
  refine (idleE _ _ _).mono ?_
  rintro e u' w'' ⟨rfl, rfl, rfl⟩
  exact ⟨_, resE tmps p q a n c x _ h2 h3 hp hq, hR⟩
/-- what Encode answers -/
def EncIs (R : Except Nat (List Nat)) (w : World) (e : Ending) (w' : World) : Prop :=
  Below w.heap.size w w' ∧ match R with
  | .error c => e = .returned (.tuple #[.slice none 0 0, .int .i64 (c : Nat)])
  | .ok l => ∃ a c, e = .returned (.tuple #[.slice a l.length c, .int .i64 0]) ∧ BIn w' a l.length c l
theorem EncIs.err {R : Except Nat (List Nat)} {w w' : World} {c : Nat} (h : R = .error c) (hb : Below w.heap.size w w') : EncIs R w (.returned (.tuple #[.slice none 0 0, .int .i64 (c : Nat)])) w' := by subst h; exact ⟨hb, rfl⟩
theorem EncIs.good {R : Except Nat (List Nat)} {w w' : World} {l : List Nat} (h : R = .ok l) (hb : Below w.heap.size w w') {a : Option Addr} {n c : Nat} (hn : l.length = n) (hi : BIn w' a n c l) : EncIs R w (.returned (.tuple #[.slice a n c, .int .i64 0])) w' := by
  subst h hn; exact ⟨hb, a, c, rfl, hi⟩

set_option maxRecDepth 100000 in
set_option maxHeartbeats 4000000 in
theorem Encode_any (w : World) (t : Nat) (b : List Nat) (k : Tr) (a : Option Addr) (c : Nat) (a' : Option Addr) (c' : Nat) (hin : ItIn w t a c a' c' b k) : Calls Try.prog 17 #[itV t a b.length c a' k.len c'] w (EncIs (encE t b k) w) := by
  have hmf : ∀ (fn : Fn) (first cap : Array Value) (w : World), (Instr.makeFunc fn first cap).run Try.prog w = .ok (.func fn first cap) w := fun _ _ _ _ => rfl
  generalize hbx : Obj.cells #[.int .u8 (t : Nat), .slice a b.length c, .slice a' k.len c'] 25 = bx
  have BX := (Blk.new w 25 [.int .u8 (t : Nat), .slice a b.length c, .slice a' k.len c'])
  have e0 : (Obj.cells [.int .u8 (t : Nat), .slice a b.length c, .slice a' k.len c'].toArray 25) = bx := hbx
  rw [e0] at BX
  have hW3 : ∃ W3, W3 = ((w.alloc bx).alloc (.cells #[.slice none 0 0] 22)).alloc (.cells #[.int .i64 0] 26) := ⟨_, rfl⟩
  have P3 := (Blk.new2 w bx 22 [.slice none 0 0]).alloc (.cells #[.int .i64 0] 26)
  have Q3 := Blk.new3 w bx (.cells #[.slice none 0 0] 22) 26 [.int .i64 0]
  have BX3 := (BX.alloc (.cells #[.slice none 0 0] 22)).alloc (.cells #[.int .i64 0] 26)
  have hbel : Below w.heap.size w (((w.alloc bx).alloc (.cells #[.slice none 0 0] 22)).alloc (.cells #[.int .i64 0] 26)) := (((Below.refl _ w).alloc (Nat.le_refl _) _).alloc (by simp) _).alloc (by simp; omega) _
  subst hbx
  have hs3 : (((w.alloc (Obj.cells #[.int .u8 (t : Nat), .slice a b.length c, .slice a' k.len c'] 25)).alloc (.cells #[.slice none 0 0] 22)).alloc (.cells #[.int .i64 0] 26)).heap.size = w.heap.size + 3 := by simp
  clear hW3
  generalize hW : (((w.alloc (Obj.cells #[.int .u8 (t : Nat), .slice a b.length c, .slice a' k.len c'] 25)).alloc (.cells #[.slice none 0 0] 22)).alloc (.cells #[.int .i64 0] 26)) = W at *
  have HIN := Lib.hid (hin.below hbel)
  have HS3 := Lib.hid hs3
  have HBX := Lib.hid BX3
  have HP := Lib.hid P3
  have HQ := Lib.hid Q3
  have HBEL := Lib.hid hbel
  have hC := size_any (k.sz + 1) k (Nat.lt_succ_self _) W t b a c a' c' 1 HIN.out (by decide)
  clear hin hs3 BX3 P3 Q3 hbel BX e0
  have hbt := fun (wx : World) (hb : Below w.heap.size w wx) (hs : w.heap.size + 3 ≤ wx.heap.size) (v x : Value) => ((hb.setCell (p := ⟨w.heap.size + 1, 0, none⟩) (by simp) v).setCell (p := ⟨w.heap.size + 1 + 1, 0, none⟩) (by simp; omega) x)
  have HBT := Lib.hid hbt
  clear hbt
  by_cases he : errI t b k 1 = 0
  · have HC := Lib.hid (hC.mono (fun e w' h => (⟨h.2.2 he, h.1⟩ : e = .returned (.int .i64 (capL (encI t b k).length : Nat)) ∧ Below W.heap.size W w')))
    by_cases hl : 65536 < (encI t b k).length
    · have HX := Lib.hid (encE_long he hl)
      have hcl : ¬ ((capL (encI t b k).length : Nat) : Int) ≤ 65536 := by unfold capL; omega
      clear hC he hl
      generalize capL (encI t b k).length = S at *
      go_enter_defers Try.func17, Try.ntmps17
      go_wp2_with (first | (refine wpList_load_row (P := Try.prog) rfl 25 (.tmp 1) rfl w.heap.size rfl 25 _ _ _ HBX.out Try.underlying25 rfl info25 ?_) | (go_at_call 53; (refine HC.out.mono ?_); rintro e w2 ⟨rfl, hb2⟩) | (go_at_call 49; refine (must_f (by first | (simp; omega) | (simp; done) | rfl) _ _).mono ?_; rintro e w' ⟨rfl, rfl⟩))
      exact exitE_bad (w.heap.size + 1) (w.heap.size + 1 + 1) 121 _ _ _ (by omega) (HP.out.below' hb2) (HQ.out.below' hb2) rfl rfl (EncIs.err HX.out (HBT.out _ (HBEL.out.trans (hb2.mono HBEL.out.size)) (by have := hb2.size; have := HS3.out; omega) _ _))
    · have HX := Lib.hid (encE_good he hl)
      have hcl : capL (encI t b k).length = (encI t b k).length := by unfold capL; omega
      have hll : ((encI t b k).length : Int) ≤ 65536 := by omega
      rw [hcl] at HC
      have HLL := Lib.hid hl
      have HLM := Lib.hid (show 0 + (encI t b k).length ≤ 1048576 by omega)
      have HLN := Lib.hid (show (encI t b k).length ≤ 65537 by omega)
      clear hC he hl hcl
      go_enter_defers Try.func17, Try.ntmps17
      go_wp2_with (first | (refine wpList_load_row (P := Try.prog) rfl 25 (.tmp 1) rfl w.heap.size rfl 25 _ _ _ HBX.out Try.underlying25 rfl info25 ?_) | (go_at_call 53; (refine HC.out.mono ?_); rintro e w2 ⟨rfl, hb2⟩; have HIN := Lib.hid (HIN.out.below hb2); have HBX := Lib.hid (HBX.out.below' hb2); have HP := Lib.hid (HP.out.below' hb2); have HQ := Lib.hid (HQ.out.below' hb2); have HBEL := Lib.hid (HBEL.out.trans (hb2.mono HBEL.out.size))) | (go_at_call 49; refine (must_t (by first | (simp; omega) | (simp; done) | rfl) _ _).mono ?_; rintro e w' ⟨rfl, rfl⟩) | (go_at_call 54; have hw := write_any (k.sz + 1) k (Nat.lt_succ_self _) w2 t b a c a' c' HIN.out w2 (Below.refl _ _) (.slice none 0 0) 0 [] (World.ownsRow_nil _ _ _ _) HLM.out HLN.out; (refine hw.mono ?_); rintro e w3 ⟨v3, rfl, hown, hgr, hat⟩; rw [Nat.zero_add, List.nil_append] at hown; obtain ⟨a3, c3, rfl⟩ := own_slice hown; have hb3 : Below w2.heap.size w2 w3 := (Below.refl _ w2).grown hgr (Nat.le_refl _) (fun x hx => by cases hx); have HO := Lib.hid hown; have HP := Lib.hid (HP.out.below' hb3); have HQ := Lib.hid (HQ.out.below' hb3); have q1 := HP.out.cell 0; have q2 := HP.out.free 0; have HQ2 := HQ.out.other ⟨w.heap.size + 1, 0, none⟩ (.slice a3 (encI t b k).length c3) (show w.heap.size + 1 + 1 ≠ w.heap.size + 1 by omega); have q3 := HQ2.cell 0; have q4 := HQ2.free 0; simp at q1 q3; have HQ3 := Lib.hid HQ2; clear HQ2))
      have hs := hb2.size
      have hs3' := HS3.out
      have hO2 := own_keep HO.out (w' := (w3.setCell ⟨w.heap.size + 1, 0, none⟩ (.slice a3 (encI t b k).length c3)).setCell ⟨w.heap.size + 1 + 1, 0, none⟩ (.int .i64 0)) (fun g hg => by
        have h1 := (own_ob_lt HO.out g hg).1
        rw [heap_setCell_other _ _ g _ (by simp; omega), heap_setCell_other _ _ g _ (by simp; omega)])
      obtain ⟨a4, c4, e4, hin4, _⟩ := own_in hO2 (item_enc8 HIN.out) (by have := HLN.out; omega)
      injection e4 with e4 e5 e6
      subst e4 e6
      have hpp := (HP.out.set 0 (.slice a3 (encI t b k).length c3)).other ⟨w.heap.size + 1 + 1, 0, none⟩ (.int .i64 0) (show w.heap.size + 1 ≠ w.heap.size + 1 + 1 by omega)
      have hqq := HQ3.out.set 0 (.int .i64 0)
      exact exitE_good (w.heap.size + 1) (w.heap.size + 1 + 1) a3 _ c3 0 _ hpp hqq rfl rfl (EncIs.good HX.out (HBT.out _ (HBEL.out.trans (hb3.mono HBEL.out.size)) (by have := hb3.size; omega) _ _) rfl hin4)
  · have HC := Lib.hid (hC.mono (fun e w' h => (⟨h.2.1 he, h.1⟩ : e = boom (errI t b k 1) ∧ Below W.heap.size W w')))
    have HX := Lib.hid (encE_err he)
    clear hC he
    generalize errI t b k 1 = E at *
    go_enter_defers Try.func17, Try.ntmps17
    go_wp2_with (first | (refine wpList_load_row (P := Try.prog) rfl 25 (.tmp 1) rfl w.heap.size rfl 25 _ _ _ HBX.out Try.underlying25 rfl info25 ?_) | (go_at_call 53; (refine HC.out.mono ?_); rintro e w2 ⟨rfl, hb2⟩))
    exact exitE_bad (w.heap.size + 1) (w.heap.size + 1 + 1) E _ _ _ (by omega) (HP.out.below' hb2) (HQ.out.below' hb2) rfl rfl (EncIs.err HX.out (HBT.out _ (HBEL.out.trans (hb2.mono HBEL.out.size)) (by have := hb2.size; have := HS3.out; omega) _ _))
end Go.Proofs.Ytbabpmncdphnjaa
