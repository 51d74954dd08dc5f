/- KecPlays' walk. Condition: the table of constants; the script's ops and their bytes together at most 1048576. -/
import Derived.Test.YtidnlaibfkjgpaaDoorKSd
import Derived.Deep.MidRow
import Derived.BigQuiet
import Derived.Deep.CutRange
namespace Go.Proofs.YtidnlaibfkjgpaaDoor
open Go.RowKit
set_option linter.unusedVariables false
set_option linter.unusedSimpArgs false
/-- one op of the script -/
structure OpR where
  kd : Int
  bits : Int
  a : Option Addr
  n : Nat
  c : Nat
  l : List Nat
def OpR.cs (x : OpR) : List Value := [.int .i64 x.kd, .int .i64 x.bits, .slice x.a x.n x.c]
/-- the script that came in -/
def SIn (w : World) (P : Option Addr) (np : Nat) (os : List OpR) : Prop :=
  os.length = np ∧ (∀ x ∈ os, BIn w x.a x.n x.c x.l ∧ -9223372036854775808 ≤ x.bits ∧ x.bits ≤ 9223372036854775807) ∧ (np = 0 ∨ ∃ b off, P = some ⟨b, off, none⟩ ∧ ∀ i x, os[i]? = some x → w.rangeAt b (off + i * 3) x.cs)
/-- how many bytes the first ops have -/
def opsL (os : List OpR) (i : Nat) : Nat := ((os.take i).map OpR.n).sum
theorem opsL_succ (os : List OpR) (i : Nat) (x : OpR) (h : os[i]? = some x) : opsL os (i + 1) = opsL os i + x.n := by
  unfold opsL
  rw [List.take_add_one, h]
  simp
theorem opsL_le (os : List OpR) (i : Nat) : opsL os i ≤ opsL os os.length := by
  unfold opsL
  rw [List.take_length]
  conv => rhs; rw [← List.take_append_drop i os]
  rw [List.map_append, List.sum_append]
  exact Nat.le_add_right _ _
theorem opsL_mem {os : List OpR} {i : Nat} {x : OpR} (h : os[i]? = some x) : x.n ≤ opsL os os.length := by
  have h1 := opsL_succ os i x h
  have h2 := opsL_le os (i + 1)
  omega
theorem range_below {w w' : World} {B b off : Nat} {cs : List Value} (h : w.rangeAt b off cs) (hb : Below w.heap.size w w') : w'.rangeAt b off cs := by
  intro j v hv
  have h1 := h j v hv
  exact (hb.cell (World.block_lt_of_cell? w _ h1)).trans h1
section
variable {w : World} {ops : Array Oper} {rest : List Oper} {o : Oper} {a : Act} {Q : Exit → Act → World → Prop}
/-- a struct is loaded out of a list -/
theorem ldM (hgd : o.guard = none) (ty : TypeId) (x : Operand) (ho : o.op = .load ty x) (b off : Nat) (hx : a.eval x = .pointer (some ⟨b, off, none⟩)) (cs : List Value) (d : TypeDesc) (hr : w.rangeAt b off cs) (hu : Tryd.prog.underlying ty = some d) (hd : d.isRow = true) (hi : (Tryd.prog.info? ty).map (·.size) = some cs.length)
    (h : wpList Tryd.prog ops Q rest (a.put o.dst (.agg cs.toArray)) w) : wpList Tryd.prog ops Q (o :: rest) a w := by
  refine wpList_plain hgd fun K hK => ?_
  unfold Oper.wp execOp
  simp only [ho, hx, Instr.loadAt, Instr.sureAddr, Sem.run_bind, Sem.run_pure, Result.andThen_ok, run_loadVar_mid w b off ty cs d hr hu hd hi]
  exact hK _ _ h
end
theorem info49 : (Tryd.prog.info? 49).map (·.size) = some 3 := by kernel_rfl
theorem KT.heap {w w' : World} {B ga gb k : Nat} {ph : Option Nat} {L : List Nat} {v : Value} (h : KT w B ga gb k ph L v) (q : w'.heap = w.heap) : KT w' B ga gb k ph L v := by
  have hb : ∀ {g t : Nat} {cs : List Value}, Blk w g t cs → Blk w' g t cs := fun h => h.of (by rw [q])
  obtain ⟨q1, q2, q3, q4, h⟩ := h
  refine ⟨q1, q2, ?_, q4, ?_⟩
  · refine ⟨q3.1, ?_⟩
    rcases q3.2 with h2 | ⟨g, cap, cur, rfl, hbg, hg, rest⟩
    · exact .inl h2
    · exact .inr ⟨g, cap, cur, rfl, hbg, by rw [q]; exact hg, rest⟩
  · cases ph with
    | none => exact ⟨⟨h.1.1, h.1.2.1, h.1.2.2.1, h.1.2.2.2.1, hb h.1.2.2.2.2⟩, hb h.2⟩
    | some b => exact ⟨⟨h.1.1, h.1.2.1, h.1.2.2.1, h.1.2.2.2.1, hb h.1.2.2.2.2⟩, hb h.2⟩
/-- what the law's loop keeps -/
def INK (w0 : World) (gt B M i : Nat) (wr : World) (ga gb k : Nat) (ph : Option Nat) (L : List Nat) (v : Value) : Prop :=
  TwK wr gt ga gb ∧ KT wr B ga gb k ph L v ∧ B ≤ ga ∧ B ≤ gb ∧ B ≤ gt ∧ Below B w0 wr ∧ L.length ≤ M ∧ NK ph ≤ 65536 * i
theorem ink_step {w0 wr w' : World} {gt B M i m ga gb k : Nat} {ph : Option Nat} {L : List Nat} {v : Value} {e : Ending} (h : INK w0 gt B M i wr ga gb k ph L v) (hB : B ≤ wr.heap.size) (hs : StK B gt ga gb ph L v m wr e w') :
    e = .returned (.bool true) ∧ ∃ ga' gb' k' ph' L' v', INK w0 gt B (M + m) (i + 1) w' ga' gb' k' ph' L' v' := by
  obtain ⟨h1, h2, h3, h4, h5, h6, h7, h8⟩ := h
  obtain ⟨he, ga', gb', k', ph', L', v', s1, s2, s3, s4, s5, s6, s7⟩ := hs
  refine ⟨he, ga', gb', k', ph', L', v', s1, s2, s4, s5, h5, ⟨s3.1.trans h6.os, s3.2.1.trans h6.tape, s3.2.2.1.trans h6.output, Nat.le_trans h6.size s3.2.2.2.1, fun j hj => (s3.2.2.2.2 j (by omega) (fun q => ?_)).trans (h6.block j hj)⟩, by omega, by omega⟩
  rcases q with q | q | q | q
  · omega
  · omega
  · omega
  · have := (h2.2.2.1.lt j q).1; omega
theorem INK.same {w0 wr w' : World} {gt B M i ga gb k : Nat} {ph : Option Nat} {L : List Nat} {v : Value} (h : INK w0 gt B M i wr ga gb k ph L v) (q : w'.heap = wr.heap) (q1 : w'.os = wr.os) (q2 : w'.tape = wr.tape) (q3 : w'.output = wr.output) : INK w0 gt B M i w' ga gb k ph L v := by
  obtain ⟨h1, h2, h3, h4, h5, h6, h7⟩ := h
  exact ⟨Blk.of (show Blk wr gt 44 _ from h1) (by rw [q]), h2.heap q, h3, h4, h5, ⟨q1.trans h6.os, q2.trans h6.tape, q3.trans h6.output, by rw [q]; exact h6.size, fun j hj => by rw [q]; exact h6.block j hj⟩, h7⟩
theorem flipK {P : Program} {f : FuncId} {args : Array Value} {w : World} {v : Value} (h : Calls P f args w fun e w' => e = .returned v ∧ w = w') : Calls P f args w fun e w' => e = .returned v ∧ w' = w := h.mono fun e w' q => ⟨q.1, q.2.symm⟩
set_option maxRecDepth 100000 in
set_option maxHeartbeats 1600000 in
theorem kplays_no (kind : Int) (hk : kind < 1 ∨ 5 < kind) (P : Option Addr) (np cp : Nat) (w : World) (htab : Tabs w) :
    Calls Tryd.prog 5 #[.int .i64 kind, .slice P np cp] w fun e w' => e = .returned (.bool true) ∧ Below w.heap.size w w' := by
  have HA := Lib.hid (awake_any w htab)
  have HN := Lib.hid (fun (gt : Nat) (w' : World) => begun_no gt kind hk w')
  clear htab
  go_enter Tryd.func5, Tryd.ntmps5
  go_wp2_with fail
  refine HA.out.mono ?_
  rintro e w1 ⟨rfl, hb0⟩
  have HBE := Lib.hid (hb0.alloc hb0.size (.cells #[.pointer none, .pointer none] 44))
  go_wp2_with fail
  refine (HN.out _ _).mono ?_
  rintro e w' ⟨rfl, rfl⟩
  go_wp2_with fail
  go_ret
  exact ⟨rfl, HBE.out⟩
set_option maxRecDepth 100000 in
set_option maxHeartbeats 3200000 in
theorem kplays_yes (k0 : Nat) (hk0 : IsKind k0) (P : Option Addr) (np cp : Nat) (os : List OpR) (w : World) (htab : Tabs w) (hin : SIn w P np os) (hnp : np ≤ 1048576) (hsum : opsL os os.length ≤ 1048576) :
    Calls Tryd.prog 5 #[.int .i64 (k0 : Nat), .slice P np cp] w fun e w' => e = .returned (.bool true) ∧ Below w.heap.size w w' := by
  have HA := Lib.hid (awake_any w htab)
  have h1w : 1 ≤ w.heap.size := htab.size
  have HTAB := Lib.hid htab
  have HIN := Lib.hid hin
  have HSUM := Lib.hid hsum
  have HBG := Lib.hid (fun (w' : World) (gt : Nat) (ht : Blk w' gt 44 [.pointer none, .pointer none]) (hB : w.heap.size ≤ w'.heap.size) (ht2 : Tabs w') => begun_yes gt w.heap.size k0 hk0 _ _ w' ht hB ht2)
  unfold BegIs at HBG
  clear htab hin hsum
  go_enter Tryd.func5, Tryd.ntmps5
  go_wp2_with fail
  refine HA.out.mono ?_
  rintro e w1 ⟨rfl, hb0⟩
  obtain ⟨gt, hgt⟩ : ∃ gt, w1.heap.size = gt := ⟨_, rfl⟩
  have hgtw : w.heap.size ≤ gt := hgt ▸ hb0.size
  obtain ⟨w2, hw2⟩ : ∃ w2, w1.alloc (.cells #[.pointer none, .pointer none] 44) = w2 := ⟨_, rfl⟩
  have hb2 : Below w.heap.size w w2 := hw2 ▸ hb0.alloc hb0.size _
  have hk2 : Blk w2 gt 44 [.pointer none, .pointer none] := by rw [← hw2, ← hgt]; exact Blk.new w1 44 _
  have HB2 := Lib.hid hb2
  have HCA := Lib.hid (HBG.out w2 gt hk2 hb2.size (HTAB.out.below hb2))
  clear hb0 hb2 hk2 HA HBG
  go_upto_region 3 with (fail)
  try rw [hw2]
  try rw [hgt]
  clear hw2
  go_wp2_with fail
  refine HCA.out.mono ?_
  rintro e w3 ⟨rfl, ga, gb, q1, q2, q3, q4, q5⟩
  have HINV := Lib.hid (show INK w gt w.heap.size (opsL os 0) 0 w3 ga gb k0 none [] (.slice none 0 0) from ⟨q3, q4, q1, q2, hgtw, ⟨q5.1.trans HB2.out.os, q5.2.1.trans HB2.out.tape, q5.2.2.1.trans HB2.out.output, Nat.le_trans HB2.out.size q5.2.2.2.1, fun j hj => (q5.2.2.2.2 j (by have := HB2.out.size; omega) (by omega)).trans (HB2.out.block j hj)⟩, by simp, by show 0 ≤ _; omega⟩)
  clear q1 q2 q3 q4 q5 HCA HB2
  go_wp2_with fail
  go_loopw [9] (fun v9 wr => ∃ (i ga gb k : Nat) (ph : Option Nat) (L : List Nat) (v : Value), v9 = .int .i64 i ∧ i ≤ np ∧ i ≤ 100 ∧ INK w gt w.heap.size (opsL os i) i wr ga gb k ph L v) (fun v9 _ => np - (intOf v9).toNat)
  case atStart => exact ⟨0, ga, gb, k0, none, [], _, rfl, by omega, by omega, HINV.out⟩
  case round =>
    clear HINV
    obtain ⟨i, ga, gb, k, ph, L, v, rfl, hi1, hi2, hinv⟩ := hrel
    have HINV := Lib.hid hinv
    clear hinv
    by_cases hq : i < np ∧ i < 100
    · obtain ⟨hq1, hq2⟩ := hq
      have hq1i : (i : Int) < (np : Int) := by omega
      have hq2i : (i : Int) < 100 := by omega
      obtain ⟨b, off, rfl, hcell⟩ := HIN.out.2.2.resolve_left (by omega)
      obtain ⟨x, hx⟩ : ∃ x, os[i]? = some x := ⟨_, List.getElem?_eq_getElem (by rw [HIN.out.1]; exact hq1)⟩
      have hbel := HINV.out.2.2.2.2.2.1
      have HC := Lib.hid (range_below (B := 0) (hcell i x hx) hbel)
      have HX := Lib.hid hx
      have HBX := Lib.hid (HIN.out.2.1 x (List.mem_of_getElem? hx))
      have hwr : w.heap.size ≤ wr.heap.size := hbel.size
      have HSTEP := Lib.hid (stepK_any gt ga gb w.heap.size k ph L v x.kd x.bits HBX.out.2 x.a x.n x.c x.l wr (HBX.out.1.below hbel) HINV.out.1 HINV.out.2.1 hwr (by omega) HINV.out.2.2.1 HINV.out.2.2.2.1 (fun b' hb' hn' => by have h1 := bin_block HBX.out.1 b' hb' hn'; have h2 := HINV.out.2.2.1; have h3 := HINV.out.2.2.2.1; exact ⟨by omega, by omega, h1⟩) (by have h1 := opsL_mem hx; have h3 := HSUM.out; omega) (by have := HINV.out.2.2.2.2.2.2.2; omega) (by have h1 := HINV.out.2.2.2.2.2.2.1; have h2 := opsL_le os i; have h3 := HSUM.out; omega) (HTAB.out.below hbel))
      clear hcell hx hbel
      go_wp2_with (refine ldM rfl 49 (.tmp 47) rfl b (off + i * 3) rfl x.cs _ HC.out Tryd.underlying49 rfl info49 ?_)
      refine HSTEP.out.mono ?_
      rintro e w5 hs5
      obtain ⟨rfl, ga, gb, k, ph, L, v, hinv5⟩ := ink_step HINV.out hwr hs5
      have HINV5 := Lib.hid (show INK w gt w.heap.size (opsL os (i + 1)) (i + 1) w5 ga gb k ph L v from by rw [opsL_succ os i x HX.out]; exact hinv5)
      clear hs5 hinv5 HINV HSTEP HC HBX hwr
      have hk5 : Blk w5 gt 44 [.pointer (some ⟨ga, 0, none⟩), .pointer (some ⟨gb, 0, none⟩)] := HINV5.out.1
      have kc0 : w5.cell? ⟨gt, 0, none⟩ = some (.pointer (some ⟨ga, 0, none⟩)) := hk5.cell 0
      have kc1 : w5.cell? ⟨gt, 1, none⟩ = some (.pointer (some ⟨gb, 0, none⟩)) := hk5.cell 1
      have hnk : NK ph ≤ 100000000 := by have := HINV5.out.2.2.2.2.2.2.2; omega
      have HL1 := Lib.hid (fun (w'' : World) (q : w''.heap = w5.heap) => show Calls Tryd.prog 20 #[.pointer (some ⟨ga, 0, none⟩)] w'' (fun e w' => e = .returned (.int .i64 (leftN (sizeK k) (NK ph))) ∧ w'' = w') from by
        obtain ⟨sa, ss, hsp⟩ := (HINV5.out.2.1.heap q).sp
        exact leftA_any ga k sa _ _ ss w'' hsp)
      have HL2 := Lib.hid (fun (w'' : World) (q : w''.heap = w5.heap) => show Calls Tryd.prog 21 #[.pointer (some ⟨gb, 0, none⟩)] w'' (fun e w' => e = .returned (.int .i64 (leftN (sizeK k) (NK ph))) ∧ w'' = w') from by
        have hd := (HINV5.out.2.1.heap q).doc
        exact refLeft_any gb k (NK ph) HINV5.out.2.1.1 w'' hd.2.1 hd.2.2.2.2 hnk)
      clear hk5
      generalize leftN (sizeK k) (NK ph) = lf at HL1 HL2
      go_wp2_with fail
      go_quiet (first | (go_at_call 20; exact Calls.quiet_of_same (flipK (HL1.out _ (by rfl)))) | (go_at_call 21; exact Calls.quiet_of_same (flipK (HL2.out _ (by rfl)))))
      go_wp2_with fail
      go_roundw
      case rel => exact ⟨i + 1, ga, gb, k, ph, L, v, by go_num, by omega, by omega, HINV5.out.same rfl rfl rfl rfl⟩
      case measure => simp [intOf]; omega
    · have HFIN := Lib.hid HINV.out.2.2.2.2.2.1
      have hcase : (i = np) ∨ (i < np ∧ i = 100) := by omega
      clear HINV
      rcases hcase with rfl | ⟨hq7, rfl⟩
      all_goals
        go_wp2_with fail
        go_ret
        exact ⟨rfl, HFIN.out⟩
theorem kplays_any (kind : Int) (P : Option Addr) (np cp : Nat) (os : List OpR) (w : World) (htab : Tabs w) (hin : SIn w P np os) (hnp : np ≤ 1048576) (hsum : opsL os os.length ≤ 1048576) :
    Calls Tryd.prog 5 #[.int .i64 kind, .slice P np cp] w fun e w' => e = .returned (.bool true) ∧ Below w.heap.size w w' := by
  by_cases hk : 1 ≤ kind ∧ kind ≤ 5
  · obtain ⟨k, rfl⟩ := Int.eq_ofNat_of_zero_le (show 0 ≤ kind by omega)
    exact kplays_yes k (by unfold IsKind; omega) P np cp os w htab hin hnp hsum
  · exact kplays_no kind (by omega) P np cp w htab
end Go.Proofs.YtidnlaibfkjgpaaDoor
