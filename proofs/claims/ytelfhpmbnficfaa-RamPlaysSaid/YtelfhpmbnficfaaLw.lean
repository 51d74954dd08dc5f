/- RamWorlds: the law's walk. Condition: sizes. -/
import Derived.Test.YtelfhpmbnficfaaOp
import Derived.Test.YtelfhpmbnficfaaDs
import Derived.Test.YtelfhpmbnficfaaLa
import Derived.Test.YtelfhpmbnficfaaAl
import Derived.Deep.CutRange
namespace Go.Proofs.Ytelfhpmbnficfaa
open Go.RowKit
set_option linter.unusedVariables false
set_option maxRecDepth 100000
set_option linter.unusedSimpArgs false
/-- a piece of a list in memory -/
theorem slice_piece {w : World} {a : Option Addr} {n cp x y : Nat} {l : List Nat} (h : BIn w a n cp l) (hn : 0 < n) (hx : x + y ≤ n) : ∃ a', (∀ w', (Instr.slice 36 (.slice a n cp) (some (.int .i64 (x : Nat))) (some (.int .i64 ((x : Int) + (y : Int)))) none).run Try.prog w' = .ok (.slice a' y (cp - x)) w') ∧ BIn w a' y (cp - x) ((l.drop x).take y) := by
  have he : Try.prog.elem 36 = 5 := by kernel_rfl
  obtain ⟨i0, hi0, hz0, hz1, hz2⟩ := info_parts info5
  have hs : ∀ w', (sizeOf 5).run Try.prog w' = .ok 1 w' := fun w' => by simp [sizeOf, typeInfo, hi0, hz1]
  have hcp := h.2.1
  obtain ⟨b, off, rfl, hc⟩ := h.1.2.2.2.resolve_left (by omega)
  have hrun : ∀ w', (Instr.slice 36 (.slice (some ⟨b, off, none⟩) n cp) (some (.int .i64 (x : Nat))) (some (.int .i64 ((x : Int) + (y : Int)))) none).run Try.prog w' = .ok (sliced (some ⟨b, off, none⟩) x (x + y) cp 1) w' := by
    intro w'
    rw [run_slice_lh w' 36 (some ⟨b, off, none⟩) n cp (by rw [he]; exact Try.underlying36) .i64 .i64 x ((x : Int) + (y : Int)) (by omega) (by omega) (by omega), he, hs]
    simp only [Result.andThen]
    congr 2
  by_cases q : cp = x
  · have hy : y = 0 := by omega
    subst hy
    refine ⟨_, fun w' => by rw [hrun]; unfold sliced; rw [if_pos q, show x + 0 - x = 0 by omega], ?_⟩
    simp only [List.take_zero]
    exact bin_empty w _ _ (by have := h.2.2.1; omega) (fun e => by cases e)
  · refine ⟨_, fun w' => by rw [hrun]; unfold sliced; rw [if_neg q, show x + y - x = y by omega], ?_⟩
    show BIn w (some ((⟨b, off, none⟩ : Addr).add (x * 1))) _ _ _
    rw [Nat.mul_one, Addr.add_mid]
    exact bin_sub h hn hx

theorem LRIn.below {w w' : World} {P : Option Addr} {np : Nat} {t : List Reg} (h : LRIn w P np t) (hb : Below w.heap.size w w') : LRIn w' P np t := by
  obtain ⟨h1, h2, h3⟩ := h
  refine ⟨h1, h2, ?_⟩
  rcases h3 with h3 | ⟨b, off, rfl, h3⟩
  · exact .inl h3
  · exact .inr ⟨b, off, rfl, fun i x hx j u hu => by
      have q := h3 i x hx j u hu
      exact (hb.cell (World.block_lt_of_cell? w _ q)).trans q⟩
theorem wi_all : wiB 1073741824 65536 = true := by decide
/-- all bytes, told -/
theorem peek_all (base a : Nat) (m : List Nat) (t : List Reg) (A : Option Addr) (c : Nat) (w : World) (hp : PAt w base a m t A c) (km : MOk m) :
    Calls Try.prog 10 #[.pointer (some ⟨a, 0, none⟩), .int .u64 1073741824, .int .u64 65536] w fun e w' => ∃ g c', e = .returned (.tuple #[.slice (some ⟨g, 0, none⟩) 65536 c', .int .i64 0]) ∧ w'.ownsRow w.heap.size 5 1 (.slice (some ⟨g, 0, none⟩) 65536 c') 65536 (bytesV m) ∧ Below w.heap.size w w' := by
  have h := peek_any base a 1073741824 65536 m t A c w hp km (by unfold U64; omega) (by unfold U64; omega)
  have e1 : clE 1073741824 65536 = 0 := by unfold clE; rw [if_pos wi_all]
  have e2 : pkL m 1073741824 65536 = m := by
    unfold pkL
    rw [if_pos wi_all, Nat.sub_self, List.drop_zero, List.take_of_length_le (by rw [km.ln]; exact Nat.le_refl _)]
  rw [e1, e2] at h
  refine h.mono ?_
  rintro e w' ⟨A', c', he, ho, hb⟩
  rw [km.ln] at he ho
  rcases ho.2 with ⟨h0, h1⟩ | ⟨g, cap, cur, hv, rest⟩
  · omega
  · injection hv with v1 v2 v3
    subst v1
    exact ⟨g, c', he, ho, hb⟩
theorem st_out {m b : List Nat} {t : List Reg} {p bn i : Nat} (km : MOk m) (hbl : b.length = bn) (hi : i < 65536) (h : ¬ (mayE t false 2 p bn = 0 ∧ p ≤ 1073741824 + i ∧ 1073741824 + i < p + bn)) : (stM m t false p b).getD i 0 = m.getD i 0 := by
  unfold stM
  rw [hbl]
  split
  · rename_i h0
    have h1 := of_decide_eq_true (mayE_ok h0).1
    rw [putM_get km (by omega) i hi, if_neg (by rw [hbl]; omega)]
  · rfl
theorem st_in {m b : List Nat} {t : List Reg} {p bn i : Nat} (km : MOk m) (hbl : b.length = bn) (hi : i < 65536) (h : mayE t false 2 p bn = 0 ∧ p ≤ 1073741824 + i ∧ 1073741824 + i < p + bn) :
    (stM m t false p b).getD i 0 = b.getD (1073741824 + i - p) 0 ∧ ∃ s n rd ex, fnd t (1073741824 + i) = some ⟨s, n, rd, true, ex, false⟩ := by
  obtain ⟨h0, h2, h3⟩ := h
  obtain ⟨h1, h4⟩ := mayE_ok h0
  have h1 := of_decide_eq_true h1
  refine ⟨?_, ?_⟩
  · unfold stM
    rw [hbl, if_pos h0, putM_get km (by omega) i hi, if_pos (by rw [hbl]; omega), show i - (p - 1073741824) = 1073741824 + i - p by omega]
  · obtain ⟨x, hx, hl⟩ := mayF_each false 2 bn p h4 (1073741824 + i - p) (by omega)
    rw [show p + (1073741824 + i - p) = 1073741824 + i by omega] at hx
    obtain ⟨s, n, rd, wr, ex, sc⟩ := x
    have hq : wr = true ∧ sc = false := by
      revert hl
      cases wr <;> cases sc <;> simp [letB, opn]
    obtain ⟨rfl, rfl⟩ := hq
    exact ⟨s, n, rd, ex, hx⟩
set_option maxRecDepth 100000 in
set_option maxHeartbeats 25600000 in
theorem worlds_walk (TA : Option Addr) (tn tc : Nat) (t0 : List Reg) (FA : Option Addr) (fn fc : Nat) (f : List Nat) (p : Nat) (BA : Option Addr) (bn bc : Nat) (b : List Nat) (w : World) (ht : LRIn w TA tn t0) (htn : tn ≤ 140737488351232) (hf : BIn w FA fn fc f) (hp : U64 p) (hb : BIn w BA bn bc b) :
    Calls Try.prog 5 #[.agg #[.slice TA tn tc, .slice FA fn fc, .int .u64 (p : Nat), .slice BA bn bc]] w fun e w' => e = .returned (.bool true) ∧ Below w.heap.size w w' := by
  have hg0 := Gr.alloc w (.cells #[.slice TA tn tc, .slice FA fn fc, .int .u64 (p : Nat), .slice BA bn bc] 52)
  have HX := Lib.hid (Blk.new w 52 [.slice TA tn tc, .slice FA fn fc, .int .u64 (p : Nat), .slice BA bn bc])
  have HG0 := Lib.hid hg0
  have HT := Lib.hid (ht.below hg0)
  have HF := Lib.hid (hf.below hg0)
  have HBI := Lib.hid (hb.below hg0)
  have HPU := Lib.hid hp
  have hfn := hf.2.2.2.1
  have hbn := hb.2.2.2.1
  clear ht hf hb hp hg0
  go_enter Try.func5, Try.ntmps5
  go_upto_region 1 with (fail)
  obtain ⟨w0, hw0⟩ : ∃ w0, w.alloc (.cells #[.slice TA tn tc, .slice FA fn fc, .int .u64 (p : Nat), .slice BA bn bc] 52) = w0 := ⟨_, rfl⟩
  try rw [hw0]
  have hw0' : w.alloc (.cells ([.slice TA tn tc, .slice FA fn fc, .int .u64 (p : Nat), .slice BA bn bc] : List Value).toArray 52) = w0 := hw0
  rw [hw0] at HG0 HT HF HBI
  rw [hw0'] at HX
  clear hw0 hw0'
  refine wp_region_L (fun w_ => Blk w_ w.heap.size 52 [.slice TA tn tc, .slice FA fn fc, .int .u64 (p : Nat), .slice BA bn bc]) [] [] (by kernel_rfl) HX.out.drew ?_
  refine wpAnyL_take (oi := _) (v := _) (fun _ _ hS_ hb_ => hS_.gr hb_) (i := 0) rfl (by kernel_rfl) (fun _ _ _ h => h) (pureG (by rfl) (by intro w; go_simp; first | done | with_reducible rfl)) ?_
  try simp only [Act.put, List.getElem_toArray, List.getElem_cons_succ, List.getElem_cons_zero, List.setIfInBounds_toArray, List.set_cons_zero, List.set_cons_succ]
  refine wpAnyL_take (oi := _) (v := _) (fun _ _ hS_ hb_ => hS_.gr hb_) (i := 1) rfl (by kernel_rfl) (fun _ _ _ h => h) (worldG (by rfl) (by intro w_ hS_; have q0 : w_.cell? ⟨w.heap.size, 0, none⟩ = some (.slice TA tn tc) := hS_.cell 0; go_simp; first | done | with_reducible rfl)) ?_
  try simp only [Act.put, List.getElem_toArray, List.getElem_cons_succ, List.getElem_cons_zero, List.setIfInBounds_toArray, List.set_cons_zero, List.set_cons_succ]
  refine wpAnyL_take (oi := _) (v := _) (fun _ _ hS_ hb_ => hS_.gr hb_) (i := 2) rfl (by kernel_rfl) (fun _ _ _ h => h) (pureG (by rfl) (by intro w; go_simp; first | done | with_reducible rfl)) ?_
  try simp only [Act.put, List.getElem_toArray, List.getElem_cons_succ, List.getElem_cons_zero, List.setIfInBounds_toArray, List.set_cons_zero, List.set_cons_succ]
  refine wpAnyL_take (oi := _) (v := _) (fun _ _ hS_ hb_ => hS_.gr hb_) (i := 3) rfl (by kernel_rfl) (fun _ _ _ h => h) (worldG (by rfl) (by intro w_ hS_; have q0 : w_.cell? ⟨w.heap.size, 1, none⟩ = some (.slice FA fn fc) := hS_.cell 1; go_simp; first | done | with_reducible rfl)) ?_
  try simp only [Act.put, List.getElem_toArray, List.getElem_cons_succ, List.getElem_cons_zero, List.setIfInBounds_toArray, List.set_cons_zero, List.set_cons_succ]
  refine wpAnyL_take (oi := _) (v := _) (fun _ _ hS_ hb_ => hS_.gr hb_) (i := 4) rfl (by kernel_rfl) (fun _ _ _ h => h) (pureG (by rfl) (by intro w; go_simp; first | done | with_reducible rfl)) ?_
  try simp only [Act.put, List.getElem_toArray, List.getElem_cons_succ, List.getElem_cons_zero, List.setIfInBounds_toArray, List.set_cons_zero, List.set_cons_succ]
  refine wpAnyL_take (oi := _) (v := _) (fun _ _ hS_ hb_ => hS_.gr hb_) (i := 5) rfl (by kernel_rfl) (fun _ _ _ h => h) (worldG (by rfl) (by intro w_ hS_; have q0 : w_.cell? ⟨w.heap.size, 2, none⟩ = some (.int .u64 (p : Nat)) := hS_.cell 2; go_simp; first | done | with_reducible rfl)) ?_
  try simp only [Act.put, List.getElem_toArray, List.getElem_cons_succ, List.getElem_cons_zero, List.setIfInBounds_toArray, List.set_cons_zero, List.set_cons_succ]
  refine wpAnyL_take (oi := _) (v := _) (fun _ _ hS_ hb_ => hS_.gr hb_) (i := 6) rfl (by kernel_rfl) (fun _ _ _ h => h) (pureG (by rfl) (by intro w; go_simp; first | done | with_reducible rfl)) ?_
  try simp only [Act.put, List.getElem_toArray, List.getElem_cons_succ, List.getElem_cons_zero, List.setIfInBounds_toArray, List.set_cons_zero, List.set_cons_succ]
  refine wpAnyL_take (oi := _) (v := _) (fun _ _ hS_ hb_ => hS_.gr hb_) (i := 7) rfl (by kernel_rfl) (fun _ _ _ h => h) (worldG (by rfl) (by intro w_ hS_; have q0 : w_.cell? ⟨w.heap.size, 3, none⟩ = some (.slice BA bn bc) := hS_.cell 3; go_simp; first | done | with_reducible rfl)) ?_
  try simp only [Act.put, List.getElem_toArray, List.getElem_cons_succ, List.getElem_cons_zero, List.setIfInBounds_toArray, List.set_cons_zero, List.set_cons_succ]
  refine wpAnyL_take (oi := _) (v := _) (fun _ _ hS_ hb_ => hS_.gr hb_) (i := 8) rfl (by kernel_rfl) (fun _ _ _ h => h) (pureG (by rfl) (by intro w; go_simp; first | done | with_reducible rfl)) ?_
  try simp only [Act.put, List.getElem_toArray, List.getElem_cons_succ, List.getElem_cons_zero, List.setIfInBounds_toArray, List.set_cons_zero, List.set_cons_succ]
  refine wpAnyL_take (oi := _) (v := _) (fun _ _ hS_ hb_ => hS_.gr hb_) (i := 9) rfl (by kernel_rfl) (fun _ _ _ h => h) (pureG (by rfl) (by intro w; go_simp; first | done | with_reducible rfl)) ?_
  try simp only [Act.put, List.getElem_toArray, List.getElem_cons_succ, List.getElem_cons_zero, List.setIfInBounds_toArray, List.set_cons_zero, List.set_cons_succ]
  refine wpAnyL_take (oi := _) (v := _) (fun _ _ hS_ hb_ => hS_.gr hb_) (i := 10) rfl (by kernel_rfl) (fun _ _ _ h => h) (pureG (by rfl) (by intro w; go_simp; first | done | with_reducible rfl)) ?_
  try simp only [Act.put, List.getElem_toArray, List.getElem_cons_succ, List.getElem_cons_zero, List.setIfInBounds_toArray, List.set_cons_zero, List.set_cons_succ]
  refine wpAnyL_take (oi := _) (v := _) (fun _ _ hS_ hb_ => hS_.gr hb_) (i := 11) rfl (by kernel_rfl) (fun _ _ _ h => h) (pureG (by rfl) (by intro w; go_simp; first | done | with_reducible rfl)) ?_
  try simp only [Act.put, List.getElem_toArray, List.getElem_cons_succ, List.getElem_cons_zero, List.setIfInBounds_toArray, List.set_cons_zero, List.set_cons_succ]
  refine wpAnyL_done (by kernel_rfl) (fun WA hWA => ?_) _
  have hg := (Gr.drew w0).trans hWA
  have HGA := Lib.hid (HG0.out.trans hg)
  have HT2 := Lib.hid (HT.out.below hg)
  have HF2 := Lib.hid (HF.out.below hg)
  have HB2 := Lib.hid (HBI.out.below hg)
  clear hg hWA HG0 HT HF HBI HX
  go_wp2_with fail
  refine (new_any WA).mono ?_
  rintro e w1 ⟨rfl, hP, hb1⟩
  have HN := Lib.hid hb1
  have HP := Lib.hid hP
  clear hb1 hP
  go_wp2_with fail
  refine (alive_any _).mono ?_
  rintro e w2 ⟨rfl, hb2⟩
  have HN2 := Lib.hid (HN.out.trans (hb2.mono HN.out.size))
  have HP2 := Lib.hid (HP.out.bel hb2)
  clear hb2 HN HP
  go_wp2_with fail
  go_loopw [8] (fun v8 wr => ∃ (i : Nat) (t : List Reg) (A : Option Addr) (c : Nat), v8 = .int .i64 (i : Nat) ∧ i ≤ tn ∧ i ≤ 40 ∧ PAt wr WA.heap.size WA.heap.size m0 t A c ∧ TOk t ∧ Below WA.heap.size WA wr) (fun v8 _ => 40 - (intOf v8).toNat)
  case atStart => exact ⟨0, [], none, 0, rfl, Nat.zero_le _, Nat.zero_le _, HP2.out, TOk.nil, HN2.out⟩
  case round =>
    obtain ⟨i, t, A, c, rfl, hi, hi2, hpa, hto, hbl⟩ := hrel
    have HPA := Lib.hid hpa
    have HTO := Lib.hid hto
    have HB := Lib.hid hbl
    clear hpa hto hbl HN2 HP2
    go_upto_region 6 with (fail)
    go_cut [42] from 35 to 50 (fun v42 wx => v42 = .bool (decide (i < tn ∧ i < 40)) ∧ wr = wx)
    case first =>
      by_cases h1 : i < tn
      · have q1 : (i : Int) < (tn : Int) := by omega
        by_cases h2 : i < 40
        · have q2 : (i : Int) < 40 := by omega
          go_wp2_with fail
          go_meet
          case rel => exact ⟨congrArg Value.bool (decide_eq_true (p := i < tn ∧ i < 40) ⟨h1, h2⟩).symm, rfl⟩
        · have q2 : ¬ (i : Int) < 40 := by omega
          go_wp2_with fail
          go_meet
          case rel => exact ⟨congrArg Value.bool (decide_eq_false (p := i < tn ∧ i < 40) (fun h => h2 h.2)).symm, rfl⟩
      · have q1 : ¬ (i : Int) < (tn : Int) := by omega
        go_wp2_with fail
        go_meet
        case rel => exact ⟨congrArg Value.bool (decide_eq_false (p := i < tn ∧ i < 40) (fun h => h1 h.1)).symm, rfl⟩
    case rest =>
      obtain ⟨rfl, rfl⟩ := hcut
      by_cases hmn : i < tn ∧ i < 40
      · have hd : decide (i < tn ∧ i < 40) = true := decide_eq_true hmn
        rw [hd]
        obtain ⟨hmn1, hmn2⟩ := hmn
        have q1 : (i : Int) < (tn : Int) := by omega
        obtain ⟨g, off, rfl, hcell⟩ := HT2.out.2.2.resolve_left (by omega)
        obtain ⟨x, hx⟩ := ent (t := t0) (j := i) (by rw [HT2.out.1]; exact hmn1)
        have hxf := HT2.out.2.1 x (List.mem_of_getElem? hx)
        have hc := hcell i x hx
        have hr : wr.rangeAt g (off + i * 6) (regD x) := fun j u hj => (HB.out.cell (World.block_lt_of_cell? WA _ (hc j u hj))).trans (hc j u hj)
        obtain ⟨rb, rn, rd, wrt, ex, sc⟩ := x
        obtain ⟨e0, e1, e2, e3, e4, e5⟩ := reg6 hr
        have hd : Calls Try.prog 16 #[.pointer (some ⟨WA.heap.size, 0, none⟩), .agg #[.int .u64 (rb : Nat), .int .u64 (rn : Nat), .bool rd, .bool wrt, .bool ex, .bool sc]] wr _ := add_any WA.heap.size WA.heap.size ⟨rb, rn, rd, wrt, ex, sc⟩ m0 t A c wr HPA.out m0_ok HTO.out (Nat.le_refl _) HB.out.size hxf
        obtain ⟨t3, ht3⟩ : ∃ t3, addT t ⟨rb, rn, rd, wrt, ex, sc⟩ = t3 := ⟨_, rfl⟩
        have hto3 := addT_ok HTO.out ⟨rb, rn, rd, wrt, ex, sc⟩
        rw [ht3] at hd hto3
        have HD := Lib.hid hd
        have HT3 := Lib.hid hto3
        clear ht3 hto3 hd hcell hx hc hr hxf
        go_wp2_with fail
        refine HD.out.mono ?_
        rintro e w3 ⟨rfl, ⟨A3, c3, hp3⟩, hf3⟩
        have HP3 := Lib.hid hp3
        have HB3 := Lib.hid (HB.out.trans (hf3.below HB.out.size))
        clear hp3 hf3 HD e0 e1 e2 e3 e4 e5
        go_wp2_with fail
        go_roundw
        case rel => exact ⟨i + 1, t3, A3, c3, by go_num, by omega, by omega, HP3.out, HT3.out, HB3.out⟩
        case measure => simp [intOf]; omega
      · have hd : decide (i < tn ∧ i < 40) = false := decide_eq_false hmn
        rw [hd]
        clear hmn hd
        go_wp2_with fail
        go_loopw [9] (fun v9 wr => ∃ (i : Nat) (m : List Nat) (A : Option Addr) (c : Nat), v9 = .int .i64 (i : Nat) ∧ i ≤ fn ∧ i ≤ 64 ∧ PAt wr WA.heap.size WA.heap.size m t A c ∧ MOk m ∧ Below WA.heap.size WA wr) (fun v9 _ => 64 - (intOf v9).toNat)
        case atStart => exact ⟨0, m0, A, c, rfl, Nat.zero_le _, Nat.zero_le _, HPA.out, m0_ok, HB.out⟩
        case round =>
          obtain ⟨k, m, A, c, rfl, hk, hk2, hpa, hmo, hbl⟩ := hrel
          have HPA2 := Lib.hid hpa
          have HMO := Lib.hid hmo
          have HB3 := Lib.hid hbl
          clear hpa hmo hbl HPA HB hi hi2
          rename_i wr2
          go_upto_region 10 with (fail)
          go_cut [58] from 51 to 71 (fun v58 wx => v58 = .bool (decide (k < fn ∧ k < 64)) ∧ wr = wx)
          case first =>
            by_cases h1 : k < fn
            · have q1 : (k : Int) < (fn : Int) := by omega
              by_cases h2 : k < 64
              · have q2 : (k : Int) < 64 := by omega
                go_wp2_with fail
                go_meet
                case rel => exact ⟨congrArg Value.bool (decide_eq_true (p := k < fn ∧ k < 64) ⟨h1, h2⟩).symm, rfl⟩
              · have q2 : ¬ (k : Int) < 64 := by omega
                go_wp2_with fail
                go_meet
                case rel => exact ⟨congrArg Value.bool (decide_eq_false (p := k < fn ∧ k < 64) (fun h => h2 h.2)).symm, rfl⟩
            · have q1 : ¬ (k : Int) < (fn : Int) := by omega
              go_wp2_with fail
              go_meet
              case rel => exact ⟨congrArg Value.bool (decide_eq_false (p := k < fn ∧ k < 64) (fun h => h1 h.1)).symm, rfl⟩
          case rest =>
            obtain ⟨rfl, rfl⟩ := hcut
            by_cases hmn : k < fn ∧ k < 64
            · have hd : decide (k < fn ∧ k < 64) = true := decide_eq_true hmn
              rw [hd]
              obtain ⟨hmn1, hmn2⟩ := hmn
              obtain ⟨q, hq⟩ : ∃ q, k * 1021 = q := ⟨_, rfl⟩
              obtain ⟨r, hr⟩ : ∃ r, 1073741824 + q = r := ⟨_, rfl⟩
              have b0 : IntKind.u64.wrap (k : Int) = (k : Int) := u64w (by omega) (by omega)
              have b1 : IntKind.u64.wrap ((k : Int) * 1021) = (q : Int) := u64w (by omega) (by omega)
              have b2 : IntKind.u64.wrap (1073741824 + (q : Int)) = (r : Int) := u64w (by omega) (by omega)
              obtain ⟨a7, hsl, hb7⟩ := slice_piece (x := k) (y := 1) HF2.out (by omega) (by omega)
              simp only [show ((1 : Nat) : Int) = 1 from rfl] at hsl
              have HPL := Lib.hid (fun w9 (h9 : PAt w9 WA.heap.size WA.heap.size m t A c) (hb9 : BIn w9 a7 1 (fc - k) ((f.drop k).take 1)) => place_any WA.heap.size WA.heap.size r 1 (fc - k) a7 ((f.drop k).take 1) m t A c w9 h9 HMO.out (Nat.le_refl _) (by unfold U64; omega) hb9)
              have HBK := Lib.hid hb7
              have HM3 := Lib.hid (plM_ok (p := r) HMO.out hb7.1.2.2.1)
              generalize (f.drop k).take 1 = L at *
              clear hb7 hq hr
              go_wp2_with fail
              refine (HPL.out _ HPA2.out (HBK.out.below HB3.out)).mono ?_
              rintro e w4 ⟨rfl, ⟨A4, c4, hp4⟩, hf4⟩
              have HP4 := Lib.hid hp4
              have HB4 := Lib.hid (HB3.out.trans (hf4.below HB3.out.size))
              clear hp4 hf4 HPL HBK hsl
              go_wp2_with fail
              go_roundw
              case rel => exact ⟨k + 1, _, A4, c4, by go_num, by omega, by omega, HP4.out, HM3.out, HB4.out⟩
              case measure => simp [intOf]; omega
            · have hd : decide (k < fn ∧ k < 64) = false := decide_eq_false hmn
              rw [hd]
              clear hmn hd
              have HK := Lib.hid (peek_all WA.heap.size WA.heap.size m t A c _ HPA2.out HMO.out)
              go_wp2_with fail
              refine HK.out.mono ?_
              rintro e w5 ⟨g1, c1, rfl, ho1, hb5⟩
              have HO1 := Lib.hid ho1
              have HPA5 := Lib.hid (HPA2.out.bel hb5)
              have HB5 := Lib.hid (HB3.out.trans (hb5.mono HB3.out.size))
              have HS := Lib.hid (store_any WA.heap.size WA.heap.size p bn bc false BA b m t A c w5 HPA5.out HMO.out HTO.out (Nat.le_refl _) HPU.out (HB2.out.below HB5.out))
              have hbl := HB2.out.1.1
              have HOUT := Lib.hid (fun i (hi : i < 65536) h => st_out (t := t) (p := p) (i := i) HMO.out hbl hi h)
              have HIN := Lib.hid (fun i (hi : i < 65536) h => st_in (t := t) (p := p) (i := i) HMO.out hbl hi h)
              have HM6 := Lib.hid (stM_ok (t := t) (sec := false) (p := p) HMO.out HB2.out.1.2.2.1)
              obtain ⟨E, hE⟩ : ∃ E, mayE t false 2 p bn = E := ⟨_, rfl⟩
              obtain ⟨M, hM⟩ : ∃ M, stM m t false p b = M := ⟨_, rfl⟩
              rw [hE, hM] at HS
              rw [hM] at HM6
              simp only [hE, hM] at HOUT HIN
              clear ho1 hb5 HK hbl hE hM
              go_wp2_with fail
              refine HS.out.mono ?_
              rintro e w6 ⟨rfl, ⟨A6, c6, hp6⟩, hf6⟩
              have HPA6 := Lib.hid hp6
              have HB6 := Lib.hid (HB5.out.trans (hf6.below HB5.out.size))
              have HO2 := Lib.hid (hf6.own HO1.out (by decide))
              have HK := Lib.hid (peek_all WA.heap.size WA.heap.size M t A6 c6 w6 hp6 HM6.out)
              clear hp6 hf6 HS HO1 HPA5 HB5
              go_wp2_with fail
              refine HK.out.mono ?_
              rintro e w7 ⟨g2, c2, rfl, ho3, hb7⟩
              have HO3 := Lib.hid ho3
              have HO4 := Lib.hid (own_below HO2.out hb7)
              have HPA7 := Lib.hid (HPA6.out.bel hb7)
              have HB7 := Lib.hid (HB6.out.trans (hb7.mono HB6.out.size))
              clear ho3 hb7 HK HO2 HPA6 HB6 HPA2 HB3 hk hk2
              go_wp2_with fail
              go_loopw [15] (fun v15 wr => ∃ j : Nat, v15 = .int .i64 (j : Nat) ∧ j ≤ 65536 ∧ Gr w7 wr) (fun v15 _ => 65536 - (intOf v15).toNat)
              case atStart => exact ⟨0, rfl, Nat.zero_le _, Gr.refl _⟩
              case round =>
                obtain ⟨j, rfl, hj, hgr⟩ := hrel
                have HG := Lib.hid hgr
                clear hgr
                by_cases hjn : j < 65536
                · have qj : (j : Int) < 65536 := by omega
                  obtain ⟨av, hav⟩ : ∃ av, 1073741824 + j = av := ⟨_, rfl⟩
                  have hpu := HPU.out
                  unfold U64 at hpu
                  have k0 : IntKind.u64.wrap (j : Int) = (j : Int) := u64w (by omega) (by omega)
                  have k1 : IntKind.u64.wrap (1073741824 + (j : Int)) = (av : Int) := u64w (by omega) (by omega)
                  have k2 : IntKind.u64.wrap (bn : Int) = (bn : Int) := u64w (by omega) (by omega)
                  obtain ⟨d, hd0⟩ : ∃ d, av - p = d := ⟨_, rfl⟩
                  have hout := HOUT.out j hjn
                  have hin := HIN.out j hjn
                  rw [hav] at hout hin
                  rw [hd0] at hin
                  have HOU := Lib.hid hout
                  have HII := Lib.hid hin
                  clear hout hin
                  go_upto_region 22 with (fail)
                  go_cut [17] from 102 to 167 (fun v17 wx => v17 = .bool (decide (E = 0 ∧ p ≤ av ∧ av < p + bn)) ∧ wr = wx)
                  case first =>
                    by_cases hE : E = 0
                    · have tE : (E == 0) = true := by simp [hE]
                      have HEE := Lib.hid hE
                      clear hE
                      by_cases h1 : p ≤ av
                      · have q1 : (p : Int) ≤ (av : Int) := by omega
                        have k3 : IntKind.u64.wrap ((av : Int) - (p : Int)) = (d : Int) := u64w (by omega) (by omega)
                        by_cases h2 : d < bn
                        · have q2 : (d : Int) < (bn : Int) := by omega
                          go_wp2_with fail
                          go_meet
                          case rel => exact ⟨congrArg Value.bool (decide_eq_true (p := E = 0 ∧ p ≤ av ∧ av < p + bn) ⟨HEE.out, h1, by omega⟩).symm, rfl⟩
                        · have q2 : ¬ (d : Int) < (bn : Int) := by omega
                          go_wp2_with fail
                          go_meet
                          case rel => exact ⟨congrArg Value.bool (decide_eq_false (p := E = 0 ∧ p ≤ av ∧ av < p + bn) (fun h => by omega)).symm, rfl⟩
                      · have q1 : ¬ (p : Int) ≤ (av : Int) := by omega
                        go_wp2_with fail
                        go_meet
                        case rel => exact ⟨congrArg Value.bool (decide_eq_false (p := E = 0 ∧ p ≤ av ∧ av < p + bn) (fun h => by omega)).symm, rfl⟩
                    · have tE : (E == 0) = false := by simpa using hE
                      go_wp2_with fail
                      go_meet
                      case rel => exact ⟨congrArg Value.bool (decide_eq_false (p := E = 0 ∧ p ≤ av ∧ av < p + bn) (fun h => hE h.1)).symm, rfl⟩
                  case rest =>
                    obtain ⟨rfl, rfl⟩ := hcut
                    have f1 := gcell (by have := (own_cells HO3.out).2 j hjn; rwa [Nat.zero_add] at this : w7.cell? ⟨g2, j, none⟩ = some (.int .u8 (M.getD j 0 : Nat))) HG.out
                    by_cases hnm : E = 0 ∧ p ≤ av ∧ av < p + bn
                    · have hd : decide (E = 0 ∧ p ≤ av ∧ av < p + bn) = true := decide_eq_true hnm
                      rw [hd]
                      obtain ⟨hv, s, n, rd, ex, hfd⟩ := HII.out hnm
                      obtain ⟨hE, hn1, hn2⟩ := hnm
                      have k3 : IntKind.u64.wrap ((av : Int) - (p : Int)) = (d : Int) := u64w (by omega) (by omega)
                      have hdn : d < bn := by omega
                      have q2 : (d : Int) < (bn : Int) := by omega
                      obtain ⟨bb, off, rfl, hcb⟩ := HB2.out.1.2.2.2.resolve_left (by omega)
                      have hbc := hcb d hdn
                      rw [hv] at f1
                      obtain ⟨v, hvv⟩ : ∃ v, b.getD d 0 = v := ⟨_, rfl⟩
                      rw [hvv] at f1 hbc
                      have HBC := Lib.hid (fun w9 (h9 : Gr w7 w9) => ((HB7.out.trans (Below.mono h9 HB7.out.size)).cell (World.block_lt_of_cell? WA _ hbc)).trans hbc)
                      have HFA := Lib.hid (find_hit WA.heap.size WA.heap.size M t A6 c6 av s n rd true ex false wr (HPA7.out.bel HG.out) HM6.out HTO.out hfd)
                      have HF1 := Lib.hid f1
                      clear hd hv hE hn1 hn2 hcb hbc hvv f1 hfd hav hd0
                      go_wp2_with fail
                      refine HFA.out.mono ?_
                      rintro e w8 ⟨rfl, hb8⟩
                      have HG8 := Lib.hid (Gr.trans (Gr.refl wr) hb8)
                      clear hb8 HFA
                      go_upto_region 27 with (fail)
                      have HX9 := Lib.hid (Blk.new w8 34 (regD ⟨s, n, rd, true, ex, false⟩))
                      have HG9 := Lib.hid (Gr.trans HG8.out (Gr.alloc w8 (.cells (regD ⟨s, n, rd, true, ex, false⟩).toArray 34)))
                      obtain ⟨w9, hw9⟩ : ∃ w9, w8.alloc (.cells (regD ⟨s, n, rd, true, ex, false⟩).toArray 34) = w9 := ⟨_, rfl⟩
                      have hw9' : w8.alloc (.cells #[.int .u64 (s : Nat), .int .u64 (n : Nat), .bool rd, .bool true, .bool ex, .bool false] 34) = w9 := hw9
                      rw [hw9] at HX9 HG9
                      try rw [hw9']
                      clear hw9 hw9' HG8
                      obtain ⟨g0, g1', g2', g3, g4, g5⟩ := reg6 (blk_part (a := []) (b := regD ⟨s, n, rd, true, ex, false⟩) (c := []) (k := 0) HX9.out rfl)
                      simp only [Nat.zero_add] at g3 g5
                      have HG3 := Lib.hid g3
                      have HG5 := Lib.hid g5
                      have HF9 := Lib.hid (gcell HF1.out HG9.out)
                      have HB9 := Lib.hid (HBC.out w9 (HG.out.trans HG9.out))
                      clear g0 g1' g2' g3 g4 g5 HF1 HBC HX9
                      refine wp_region_L (fun w_ => Gr w9 w_) [] [] (by kernel_rfl) (Gr.drew _) ?_
                      refine wpAnyL_take (oi := _) (v := _) (fun _ _ hS_ hb_ => Gr.trans hS_ hb_) (i := 0) rfl (by kernel_rfl) (fun _ _ _ h => h) (pureG (by rfl) (by intro w; go_simp; first | done | with_reducible rfl)) ?_
                      try simp only [Act.put, List.getElem_toArray, List.getElem_cons_succ, List.getElem_cons_zero, List.setIfInBounds_toArray, List.set_cons_zero, List.set_cons_succ]
                      refine wpAnyL_take (oi := _) (v := _) (fun _ _ hS_ hb_ => Gr.trans hS_ hb_) (i := 1) rfl (by kernel_rfl) (fun _ _ _ h => h) (pureG (by rfl) (by intro w; go_simp; first | done | with_reducible rfl)) ?_
                      try simp only [Act.put, List.getElem_toArray, List.getElem_cons_succ, List.getElem_cons_zero, List.setIfInBounds_toArray, List.set_cons_zero, List.set_cons_succ]
                      refine wpAnyL_take (oi := _) (v := _) (fun _ _ hS_ hb_ => Gr.trans hS_ hb_) (i := 2) rfl (by kernel_rfl) (fun _ _ _ h => h) (pureG (by rfl) (by intro w; go_simp; first | done | with_reducible rfl)) ?_
                      try simp only [Act.put, List.getElem_toArray, List.getElem_cons_succ, List.getElem_cons_zero, List.setIfInBounds_toArray, List.set_cons_zero, List.set_cons_succ]
                      refine wpAnyL_take (oi := _) (v := _) (fun _ _ hS_ hb_ => Gr.trans hS_ hb_) (i := 3) rfl (by kernel_rfl) (fun _ _ _ h => h) (worldG (by rfl) (by intro w_ hS_; have q0_ := gcell HF9.out hS_; go_simp; first | done | with_reducible rfl)) ?_
                      try simp only [Act.put, List.getElem_toArray, List.getElem_cons_succ, List.getElem_cons_zero, List.setIfInBounds_toArray, List.set_cons_zero, List.set_cons_succ]
                      refine wpAnyL_take (oi := _) (v := _) (fun _ _ hS_ hb_ => Gr.trans hS_ hb_) (i := 4) rfl (by kernel_rfl) (fun _ _ _ h => h) (pureG (by rfl) (by intro w; go_simp; first | done | with_reducible rfl)) ?_
                      try simp only [Act.put, List.getElem_toArray, List.getElem_cons_succ, List.getElem_cons_zero, List.setIfInBounds_toArray, List.set_cons_zero, List.set_cons_succ]
                      refine wpAnyL_take (oi := _) (v := _) (fun _ _ hS_ hb_ => Gr.trans hS_ hb_) (i := 5) rfl (by kernel_rfl) (fun _ _ _ h => h) (pureG (by rfl) (by intro w; go_simp; first | done | with_reducible rfl)) ?_
                      try simp only [Act.put, List.getElem_toArray, List.getElem_cons_succ, List.getElem_cons_zero, List.setIfInBounds_toArray, List.set_cons_zero, List.set_cons_succ]
                      refine wpAnyL_take (oi := _) (v := _) (fun _ _ hS_ hb_ => Gr.trans hS_ hb_) (i := 6) rfl (by kernel_rfl) (fun _ _ _ h => h) (pureG (by rfl) (by intro w; go_simp; first | done | with_reducible rfl)) ?_
                      try simp only [Act.put, List.getElem_toArray, List.getElem_cons_succ, List.getElem_cons_zero, List.setIfInBounds_toArray, List.set_cons_zero, List.set_cons_succ]
                      refine wpAnyL_take (oi := _) (v := _) (fun _ _ hS_ hb_ => Gr.trans hS_ hb_) (i := 7) rfl (by kernel_rfl) (fun _ _ _ h => h) (pureG (by rfl) (by intro w; go_simp; first | done | with_reducible rfl)) ?_
                      try simp only [Act.put, List.getElem_toArray, List.getElem_cons_succ, List.getElem_cons_zero, List.setIfInBounds_toArray, List.set_cons_zero, List.set_cons_succ]
                      refine wpAnyL_take (oi := _) (v := _) (fun _ _ hS_ hb_ => Gr.trans hS_ hb_) (i := 8) rfl (by kernel_rfl) (fun _ _ _ h => h) (pureG (by rfl) (by intro w; go_simp; first | done | with_reducible rfl)) ?_
                      try simp only [Act.put, List.getElem_toArray, List.getElem_cons_succ, List.getElem_cons_zero, List.setIfInBounds_toArray, List.set_cons_zero, List.set_cons_succ]
                      refine wpAnyL_take (oi := _) (v := _) (fun _ _ hS_ hb_ => Gr.trans hS_ hb_) (i := 9) rfl (by kernel_rfl) (fun _ _ _ h => h) (worldG (by rfl) (by intro w_ hS_; have q0_ := gcell HB9.out hS_; go_simp; first | done | with_reducible rfl)) ?_
                      try simp only [Act.put, List.getElem_toArray, List.getElem_cons_succ, List.getElem_cons_zero, List.setIfInBounds_toArray, List.set_cons_zero, List.set_cons_succ]
                      refine wpAnyL_take (oi := _) (v := _) (fun _ _ hS_ hb_ => Gr.trans hS_ hb_) (i := 10) rfl (by kernel_rfl) (fun _ _ _ h => h) (pureG (by rfl) (by intro w; go_simp; first | done | with_reducible rfl)) ?_
                      try simp only [Act.put, List.getElem_toArray, List.getElem_cons_succ, List.getElem_cons_zero, List.setIfInBounds_toArray, List.set_cons_zero, List.set_cons_succ]
                      refine wpAnyL_take (oi := _) (v := _) (fun _ _ hS_ hb_ => Gr.trans hS_ hb_) (i := 11) rfl (by kernel_rfl) (fun _ _ _ h => h) (pureG (by rfl) (by intro w; go_simp; first | done | with_reducible rfl)) ?_
                      try simp only [Act.put, List.getElem_toArray, List.getElem_cons_succ, List.getElem_cons_zero, List.setIfInBounds_toArray, List.set_cons_zero, List.set_cons_succ]
                      refine wpAnyL_take (oi := _) (v := _) (fun _ _ hS_ hb_ => Gr.trans hS_ hb_) (i := 12) rfl (by kernel_rfl) (fun _ _ _ h => h) (pureG (by rfl) (by intro w; go_simp; first | done | with_reducible rfl)) ?_
                      try simp only [Act.put, List.getElem_toArray, List.getElem_cons_succ, List.getElem_cons_zero, List.setIfInBounds_toArray, List.set_cons_zero, List.set_cons_succ]
                      refine wpAnyL_take (oi := _) (v := _) (fun _ _ hS_ hb_ => Gr.trans hS_ hb_) (i := 13) rfl (by kernel_rfl) (fun _ _ _ h => h) (pureG (by rfl) (by intro w; go_simp; first | done | with_reducible rfl)) ?_
                      try simp only [Act.put, List.getElem_toArray, List.getElem_cons_succ, List.getElem_cons_zero, List.setIfInBounds_toArray, List.set_cons_zero, List.set_cons_succ]
                      refine wpAnyL_take (oi := _) (v := _) (fun _ _ hS_ hb_ => Gr.trans hS_ hb_) (i := 14) rfl (by kernel_rfl) (fun _ _ _ h => h) (pureG (by rfl) (by intro w; go_simp; first | done | with_reducible rfl)) ?_
                      try simp only [Act.put, List.getElem_toArray, List.getElem_cons_succ, List.getElem_cons_zero, List.setIfInBounds_toArray, List.set_cons_zero, List.set_cons_succ]
                      refine wpAnyL_take (oi := _) (v := _) (fun _ _ hS_ hb_ => Gr.trans hS_ hb_) (i := 15) rfl (by kernel_rfl) (fun _ _ _ h => h) (pureG (by rfl) (by intro w; go_simp; first | done | with_reducible rfl)) ?_
                      try simp only [Act.put, List.getElem_toArray, List.getElem_cons_succ, List.getElem_cons_zero, List.setIfInBounds_toArray, List.set_cons_zero, List.set_cons_succ]
                      refine wpAnyL_take (oi := _) (v := _) (fun _ _ hS_ hb_ => Gr.trans hS_ hb_) (i := 16) rfl (by kernel_rfl) (fun _ _ _ h => h) (pureG (by rfl) (by intro w; go_simp; first | done | with_reducible rfl)) ?_
                      try simp only [Act.put, List.getElem_toArray, List.getElem_cons_succ, List.getElem_cons_zero, List.setIfInBounds_toArray, List.set_cons_zero, List.set_cons_succ]
                      refine wpAnyL_take (oi := _) (v := _) (fun _ _ hS_ hb_ => Gr.trans hS_ hb_) (i := 17) rfl (by kernel_rfl) (fun _ _ _ h => h) (worldG (by rfl) (by intro w_ hS_; have q0_ := gcell HG5.out hS_; go_simp; first | done | with_reducible rfl)) ?_
                      try simp only [Act.put, List.getElem_toArray, List.getElem_cons_succ, List.getElem_cons_zero, List.setIfInBounds_toArray, List.set_cons_zero, List.set_cons_succ]
                      refine wpAnyL_take (oi := _) (v := _) (fun _ _ hS_ hb_ => Gr.trans hS_ hb_) (i := 18) rfl (by kernel_rfl) (fun _ _ _ h => h) (pureG (by rfl) (by intro w; go_simp; first | done | with_reducible rfl)) ?_
                      try simp only [Act.put, List.getElem_toArray, List.getElem_cons_succ, List.getElem_cons_zero, List.setIfInBounds_toArray, List.set_cons_zero, List.set_cons_succ]
                      refine wpAnyL_take (oi := _) (v := _) (fun _ _ hS_ hb_ => Gr.trans hS_ hb_) (i := 19) rfl (by kernel_rfl) (fun _ _ _ h => h) (pureG (by rfl) (by intro w; go_simp; first | done | with_reducible rfl)) ?_
                      try simp only [Act.put, List.getElem_toArray, List.getElem_cons_succ, List.getElem_cons_zero, List.setIfInBounds_toArray, List.set_cons_zero, List.set_cons_succ]
                      refine wpAnyL_take (oi := _) (v := _) (fun _ _ hS_ hb_ => Gr.trans hS_ hb_) (i := 20) rfl (by kernel_rfl) (fun _ _ _ h => h) (pureG (by rfl) (by intro w; go_simp; first | done | with_reducible rfl)) ?_
                      try simp only [Act.put, List.getElem_toArray, List.getElem_cons_succ, List.getElem_cons_zero, List.setIfInBounds_toArray, List.set_cons_zero, List.set_cons_succ]
                      refine wpAnyL_take (oi := _) (v := _) (fun _ _ hS_ hb_ => Gr.trans hS_ hb_) (i := 21) rfl (by kernel_rfl) (fun _ _ _ h => h) (worldG (by rfl) (by intro w_ hS_; have q0_ := gcell HG3.out hS_; go_simp; first | done | with_reducible rfl)) ?_
                      try simp only [Act.put, List.getElem_toArray, List.getElem_cons_succ, List.getElem_cons_zero, List.setIfInBounds_toArray, List.set_cons_zero, List.set_cons_succ]
                      refine wpAnyL_take (oi := _) (v := _) (fun _ _ hS_ hb_ => Gr.trans hS_ hb_) (i := 22) rfl (by kernel_rfl) (fun _ _ _ h => h) (pureG (by rfl) (by intro w; go_simp; first | done | with_reducible rfl)) ?_
                      try simp only [Act.put, List.getElem_toArray, List.getElem_cons_succ, List.getElem_cons_zero, List.setIfInBounds_toArray, List.set_cons_zero, List.set_cons_succ]
                      refine wpAnyL_take (oi := _) (v := _) (fun _ _ hS_ hb_ => Gr.trans hS_ hb_) (i := 23) rfl (by kernel_rfl) (fun _ _ _ h => h) (pureG (by rfl) (by intro w; go_simp; first | done | with_reducible rfl)) ?_
                      try simp only [Act.put, List.getElem_toArray, List.getElem_cons_succ, List.getElem_cons_zero, List.setIfInBounds_toArray, List.set_cons_zero, List.set_cons_succ]
                      refine wpAnyL_done (by kernel_rfl) (fun WB hWB => ?_) _
                      have HGB := Lib.hid (HG.out.trans (HG9.out.trans ((Gr.drew w9).trans hWB)))
                      clear hWB
                      go_wp2_with fail
                      go_roundw
                      case rel => exact ⟨j + 1, by go_num, by omega, HGB.out⟩
                      case measure => simp [intOf]; omega
                    · have hd : decide (E = 0 ∧ p ≤ av ∧ av < p + bn) = false := decide_eq_false hnm
                      rw [hd]
                      have hv := HOU.out hnm
                      have f2 := gcell (by have := (own_cells HO4.out).2 j hjn; rwa [Nat.zero_add] at this : w7.cell? ⟨g1, j, none⟩ = some (.int .u8 (m.getD j 0 : Nat))) HG.out
                      rw [hv] at f1
                      obtain ⟨v, hvv⟩ : ∃ v, m.getD j 0 = v := ⟨_, rfl⟩
                      rw [hvv] at f1 f2
                      have HF1 := Lib.hid f1
                      have HF22 := Lib.hid f2
                      clear hd hv hnm hvv f1 f2 hav hd0
                      go_upto_region 24 with (fail)
                      refine wp_region_L (fun w_ => Gr wr w_) [] [] (by kernel_rfl) (Gr.drew _) ?_
                      refine wpAnyL_take (oi := _) (v := _) (fun _ _ hS_ hb_ => Gr.trans hS_ hb_) (i := 0) rfl (by kernel_rfl) (fun _ _ _ h => h) (pureG (by rfl) (by intro w; go_simp; first | done | with_reducible rfl)) ?_
                      try simp only [Act.put, List.getElem_toArray, List.getElem_cons_succ, List.getElem_cons_zero, List.setIfInBounds_toArray, List.set_cons_zero, List.set_cons_succ]
                      refine wpAnyL_take (oi := _) (v := _) (fun _ _ hS_ hb_ => Gr.trans hS_ hb_) (i := 1) rfl (by kernel_rfl) (fun _ _ _ h => h) (pureG (by rfl) (by intro w; go_simp; first | done | with_reducible rfl)) ?_
                      try simp only [Act.put, List.getElem_toArray, List.getElem_cons_succ, List.getElem_cons_zero, List.setIfInBounds_toArray, List.set_cons_zero, List.set_cons_succ]
                      refine wpAnyL_take (oi := _) (v := _) (fun _ _ hS_ hb_ => Gr.trans hS_ hb_) (i := 2) rfl (by kernel_rfl) (fun _ _ _ h => h) (pureG (by rfl) (by intro w; go_simp; first | done | with_reducible rfl)) ?_
                      try simp only [Act.put, List.getElem_toArray, List.getElem_cons_succ, List.getElem_cons_zero, List.setIfInBounds_toArray, List.set_cons_zero, List.set_cons_succ]
                      refine wpAnyL_take (oi := _) (v := _) (fun _ _ hS_ hb_ => Gr.trans hS_ hb_) (i := 3) rfl (by kernel_rfl) (fun _ _ _ h => h) (worldG (by rfl) (by intro w_ hS_; have q0_ := gcell HF1.out hS_; go_simp; first | done | with_reducible rfl)) ?_
                      try simp only [Act.put, List.getElem_toArray, List.getElem_cons_succ, List.getElem_cons_zero, List.setIfInBounds_toArray, List.set_cons_zero, List.set_cons_succ]
                      refine wpAnyL_take (oi := _) (v := _) (fun _ _ hS_ hb_ => Gr.trans hS_ hb_) (i := 4) rfl (by kernel_rfl) (fun _ _ _ h => h) (pureG (by rfl) (by intro w; go_simp; first | done | with_reducible rfl)) ?_
                      try simp only [Act.put, List.getElem_toArray, List.getElem_cons_succ, List.getElem_cons_zero, List.setIfInBounds_toArray, List.set_cons_zero, List.set_cons_succ]
                      refine wpAnyL_take (oi := _) (v := _) (fun _ _ hS_ hb_ => Gr.trans hS_ hb_) (i := 5) rfl (by kernel_rfl) (fun _ _ _ h => h) (pureG (by rfl) (by intro w; go_simp; first | done | with_reducible rfl)) ?_
                      try simp only [Act.put, List.getElem_toArray, List.getElem_cons_succ, List.getElem_cons_zero, List.setIfInBounds_toArray, List.set_cons_zero, List.set_cons_succ]
                      refine wpAnyL_take (oi := _) (v := _) (fun _ _ hS_ hb_ => Gr.trans hS_ hb_) (i := 6) rfl (by kernel_rfl) (fun _ _ _ h => h) (pureG (by rfl) (by intro w; go_simp; first | done | with_reducible rfl)) ?_
                      try simp only [Act.put, List.getElem_toArray, List.getElem_cons_succ, List.getElem_cons_zero, List.setIfInBounds_toArray, List.set_cons_zero, List.set_cons_succ]
                      refine wpAnyL_take (oi := _) (v := _) (fun _ _ hS_ hb_ => Gr.trans hS_ hb_) (i := 7) rfl (by kernel_rfl) (fun _ _ _ h => h) (worldG (by rfl) (by intro w_ hS_; have q0_ := gcell HF22.out hS_; go_simp; first | done | with_reducible rfl)) ?_
                      try simp only [Act.put, List.getElem_toArray, List.getElem_cons_succ, List.getElem_cons_zero, List.setIfInBounds_toArray, List.set_cons_zero, List.set_cons_succ]
                      refine wpAnyL_take (oi := _) (v := _) (fun _ _ hS_ hb_ => Gr.trans hS_ hb_) (i := 8) rfl (by kernel_rfl) (fun _ _ _ h => h) (pureG (by rfl) (by intro w; go_simp; first | done | with_reducible rfl)) ?_
                      try simp only [Act.put, List.getElem_toArray, List.getElem_cons_succ, List.getElem_cons_zero, List.setIfInBounds_toArray, List.set_cons_zero, List.set_cons_succ]
                      refine wpAnyL_done (by kernel_rfl) (fun WB hWB => ?_) _
                      have HGB := Lib.hid (HG.out.trans ((Gr.drew wr).trans hWB))
                      clear hWB
                      go_wp2_with fail
                      go_roundw
                      case rel => exact ⟨j + 1, by go_num, by omega, HGB.out⟩
                      case measure => simp [intOf]; omega
                · have qj : ¬ (j : Int) < 65536 := by omega
                  go_wp2_with fail
                  go_ret
                  exact ⟨rfl, Below.trans HGA.out (Below.mono ((HB7.out.trans (Below.mono HG.out HB7.out.size))) HGA.out.size)⟩
end Go.Proofs.Ytelfhpmbnficfaa
