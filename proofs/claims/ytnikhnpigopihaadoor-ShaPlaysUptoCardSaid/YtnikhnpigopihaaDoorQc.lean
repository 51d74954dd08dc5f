/- For ShaPlays: steps of the script (func 20): 7 (open), 4 (go on from the state), and what is no step. Condition: as PlT. -/
/- For ShaPlays: step 6 (a new one of so many bits) and what is no step (func 20). Condition: the tables. -/
/- For ShaPlays: any step (func 20) keeps what the loop keeps. Condition: the tables; sizes. -/
/- For ShaPlays: the script that came in; what the law's second loop keeps: plain. No condition. -/
/- For ShaPlays: an append as the only operation that may come up; forms of lists of lists. No condition. -/
/- ShaPlays' walk. Condition: the tables; the script's ops and their bytes together at most 1048576. -/
import Derived.Test.YtnikhnpigopihaaDoorQa
import Derived.Test.YtnikhnpigopihaaDoorQb
import Derived.Deep.MidRow
import Derived.Laws.OwnMore
import Derived.Test.YtnikhnpigopihaaDoorAwake
import Derived.Deep.CutRange
import Derived.BigQuiet
namespace Go.Proofs.YtnikhnpigopihaaDoor
open Go.RowKit
set_option linter.unusedVariables false
set_option linter.unusedSimpArgs false
theorem TOp.back {gt : Nat} {pa pb V1 V2 : Value} {w w1 : World} {e : Ending} {w' : World} (h : TOp gt pa pb V1 V2 w1 e w') (hb : Below w.heap.size w w1) : TOp gt pa pb V1 V2 w e w' := by
  obtain ⟨h1, h2, h3⟩ := h
  refine ⟨h1, grown_trans (grown_below hb _) h2, h3.imp id ?_⟩
  rintro ⟨ga, gb, k, n0, S, T, h4, h5⟩
  exact ⟨ga, gb, k, n0, S, T, Nat.le_trans hb.size h4, h5⟩
set_option maxRecDepth 100000 in
set_option maxHeartbeats 1600000 in
theorem step_7 (gt : Nat) (pa pb V1 V2 : Value) (bits : Int) (a : Option Addr) (m c : Nat) (L : List Nat) (w : World) (hb : BIn w a m c L) (hk : TwB w gt pa pb V1 V2) (h2 : 2 ≤ w.heap.size) (h47 : m ≤ 140737488351232) :
    Calls Tryd.prog 20 #[.pointer (some ⟨gt, 0, none⟩), .agg #[.int .i64 7, .int .i64 bits, .slice a m c]] w (TOp gt pa pb V1 V2 w) := by
  have hgt : gt < w.heap.size := Blk.lt hk
  have hb1 := (Below.refl w.heap.size w).alloc (Nat.le_refl _) (.cells #[.int .i64 7, .int .i64 bits, .slice a m c] 47)
  have HT := Lib.hid (topen_any gt pa pb V1 V2 a m c L _ (hb.below hb1) (Blk.below hk hb1 hgt) (Nat.le_trans h2 hb1.size) h47)
  have HB := Lib.hid hb1
  clear hb hk hb1
  unfold TOp at HT
  go_enter Tryd.func20, Tryd.ntmps20
  go_wp2_with fail
  refine HT.out.mono ?_
  rintro e w2 ⟨rfl, hg, hx⟩
  have HX := Lib.hid hx
  clear hx
  go_wp2_with fail
  go_ret
  exact TOp.back (w1 := _) ⟨rfl, hg, HX.out⟩ HB.out
set_option maxRecDepth 100000 in
set_option maxHeartbeats 1600000 in
theorem step_4 (gt ga gb k n0 : Nat) (S L : List Nat) (V1 V2 : Value) (bits : Int) (v : Value) (w : World) (hk : TwB w gt (.pointer (some ⟨ga, 0, none⟩)) (.pointer (some ⟨gb, 0, none⟩)) V1 V2) (h : TW w ga gb k n0 S L) (h2 : 2 ≤ w.heap.size) (h47 : L.length + 300 ≤ 140737488351232) (hv : ∃ a m c, v = .slice a m c) :
    Calls Tryd.prog 20 #[.pointer (some ⟨gt, 0, none⟩), .agg #[.int .i64 4, .int .i64 bits, v]] w (TOp gt (.pointer (some ⟨ga, 0, none⟩)) (.pointer (some ⟨gb, 0, none⟩)) V1 V2 w) := by
  obtain ⟨a, m, c, rfl⟩ := hv
  have hgt : gt < w.heap.size := Blk.lt hk
  have hb1 := (Below.refl w.heap.size w).alloc (Nat.le_refl _) (.cells #[.int .i64 4, .int .i64 bits, .slice a m c] 47)
  have h1 := h.below hb1
  have HS := Lib.hid (refState_any gb (gb + 1) k n0 S L _ h1.2.1 h1.2.2.2.2 (by omega))
  have hs8 := h1.1.2.2.1
  have hrb := goes_bytes (wW_pos k) _ S L rfl h1.2.1.2.2.2.1
  have hrl := goes_tail (wW_pos k) _ S L rfl
  have hkk := h1.1.1
  have HLEN := Lib.hid (show (stateN k (n0 + L.length) (goes (wW k) S L).1 (goes (wW k) S L).2).length ≤ 300 from by
    rw [state_len hs8, hrl]
    have h1 := mod_le k L.length
    have h2 : wB k ≤ 8 := by unfold wB; split <;> omega
    omega)
  have HLT := Lib.hid (show ∀ x ∈ stateN k (n0 + L.length) (goes (wW k) S L).1 (goes (wW k) S L).2, x < 256 from state_lt hkk hrb)
  have hb0 := Blk.cell (Blk.below hk hb1 hgt) 1
  rw [show ([.pointer (some ⟨ga, 0, none⟩), .pointer (some ⟨gb, 0, none⟩), V1, V2] : List Value)[1]? = some (.pointer (some ⟨gb, 0, none⟩)) from rfl] at hb0
  have HK := Lib.hid (Blk.below hk hb1 hgt)
  have HB := Lib.hid hb1
  generalize stateN k (n0 + L.length) (goes (wW k) S L).1 (goes (wW k) S L).2 = X at *
  clear h h1 hk hb1 hs8 hrb hrl hkk
  go_enter Tryd.func20, Tryd.ntmps20
  go_wp2_with fail
  refine HS.out.mono ?_
  rintro e w2 ⟨v, rfl, ho, hb2⟩
  obtain ⟨a2, c2, rfl, hin, _⟩ := own_in ho HLT.out (by have := HLEN.out; omega)
  have HT := Lib.hid (topen_any gt (.pointer (some ⟨ga, 0, none⟩)) (.pointer (some ⟨gb, 0, none⟩)) V1 V2 a2 X.length c2 X w2 hin (Blk.below' HK.out hb2) (by have := HB.out.size; have := hb2.size; omega) (by have := HLEN.out; omega))
  have HB2 := Lib.hid (HB.out.trans (hb2.mono HB.out.size))
  clear ho hin hb2 hb0
  unfold TOp at HT
  go_wp2_with fail
  refine HT.out.mono ?_
  rintro e w3 ⟨rfl, hg, hx⟩
  have HX := Lib.hid hx
  clear hx
  go_wp2_with fail
  go_ret
  exact TOp.back (w1 := _) ⟨rfl, hg, HX.out⟩ HB2.out
end Go.Proofs.YtnikhnpigopihaaDoor
namespace Go.Proofs.YtnikhnpigopihaaDoor
open Go.RowKit
set_option linter.unusedVariables false
set_option linter.unusedSimpArgs false
theorem refNew_any (k : Nat) (hk : IsKind k) (w : World) : Calls Tryd.prog 19 #[.int .i64 (bitsK k)] w (RefNew k w) := by
  rcases hk with rfl | rfl | rfl
  · exact refNew_1 w
  · exact refNew_2 w
  · exact refNew_3 w
set_option maxRecDepth 100000 in
set_option maxHeartbeats 1600000 in
theorem step_6_yes (gt k : Nat) (hkk : IsKind k) (pa pb V1 V2 : Value) (a : Option Addr) (m c : Nat) (w : World) (hk : TwB w gt pa pb V1 V2) (htab : Tabs w) (h2 : 2 ≤ w.heap.size) :
    Calls Tryd.prog 20 #[.pointer (some ⟨gt, 0, none⟩), .agg #[.int .i64 6, .int .i64 (bitsK k), .slice a m c]] w (TOp gt pa pb V1 V2 w) := by
  have hgt : gt < w.heap.size := Blk.lt hk
  have HN := Lib.hid (fun (w' : World) (h : Below w.heap.size w w') => new_any k hkk w' (htab.below h) (Nat.le_trans h2 h.size))
  have HR := Lib.hid (fun (w' : World) => refNew_any k hkk w')
  have HK := Lib.hid hk
  obtain ⟨bits, hbits⟩ : ∃ bits, bitsK k = bits := ⟨_, rfl⟩
  rw [hbits] at HN HR ⊢
  have hb1 := (Below.refl w.heap.size w).alloc (Nat.le_refl _) (.cells #[.int .i64 6, .int .i64 bits, .slice a m c] 47)
  have HB := Lib.hid hb1
  clear hk hb1 htab hbits
  unfold TOp
  go_enter Tryd.func20, Tryd.ntmps20
  go_wp2_with fail
  refine (HN.out _ HB.out).mono ?_
  rintro e w2 ⟨ga, rfl, hga, hh, hb2⟩
  have hgaw : w.heap.size ≤ ga := Nat.le_trans HB.out.size hga
  have HH := Lib.hid hh
  have hbe2 := HB.out.trans (hb2.mono HB.out.size)
  have hc1 : w2.cell? ⟨w.heap.size, 1, none⟩ = some (.int .i64 bits) := (hb2.cell (by simp)).trans (by simp)
  clear hh hb2
  go_wp2_with fail
  refine (HR.out w2).mono ?_
  rintro e w3 ⟨gb, rfl, hgb, hr, hb3⟩
  have hab : ga < gb := Nat.lt_of_lt_of_le HH.out.2.lt hgb
  have HT3 := Lib.hid (show TW w3 ga gb k 0 (firstN k) [] from ⟨HH.out.2.belowB hb3 HH.out.2.lt, hr, hab, Nat.zero_mod _, by simp⟩)
  have hbe3 := hbe2.trans (hb3.mono hbe2.size)
  have hk4 : Blk w3 gt 44 [pa, pb, V1, V2] := Blk.below HK.out hbe3 hgt
  have hk5 := hk4.set 0 (.pointer (some ⟨ga, 0, none⟩))
  have hk6 := hk5.set 1 (.pointer (some ⟨gb, 0, none⟩))
  have hc0 := hk4.cell 0
  have hd1 := hk5.cell 1
  have hf0 := hk4.free 0
  have hf1 := hk5.free 1
  rw [show ([pa, pb, V1, V2] : List Value)[0]? = some pa from rfl] at hc0
  rw [show (([pa, pb, V1, V2] : List Value).set 0 (.pointer (some ⟨ga, 0, none⟩)))[1]? = some pb from rfl] at hd1
  have HG46 := Lib.hid (show w3.grownBy ((w3.setCell ⟨gt, 0, none⟩ (.pointer (some ⟨ga, 0, none⟩))).setCell ⟨gt, 1, none⟩ (.pointer (some ⟨gb, 0, none⟩))) (some gt) from grown_trans (grown_setCell w3 ⟨gt, 0, none⟩ (.pointer (some ⟨ga, 0, none⟩))) (grown_setCell _ ⟨gt, 1, none⟩ (.pointer (some ⟨gb, 0, none⟩))))
  have HG6 := Lib.hid (grown_trans (grown_below hbe3 (some gt)) HG46.out)
  have HT6 := Lib.hid (HT3.out.low HG46.out (by omega))
  have HK6 := Lib.hid (show TwB _ gt (.pointer (some ⟨ga, 0, none⟩)) (.pointer (some ⟨gb, 0, none⟩)) V1 V2 from hk6)
  clear hk4 hk5 hk6 hr hb3 HT3 HH hc1
  go_wp2_with fail
  go_ret
  exact ⟨rfl, HG6.out, .inr ⟨ga, gb, k, 0, _, _, hgaw, HK6.out, HT6.out, by simp⟩⟩
set_option maxRecDepth 100000 in
set_option maxHeartbeats 1600000 in
theorem step_6_no (gt : Nat) (bits : Int) (h1 : bits ≠ 256) (h2 : bits ≠ 384) (h3 : bits ≠ 512) (pa pb V1 V2 : Value) (a : Option Addr) (m c : Nat) (w : World) (hk : TwB w gt pa pb V1 V2) :
    Calls Tryd.prog 20 #[.pointer (some ⟨gt, 0, none⟩), .agg #[.int .i64 6, .int .i64 bits, .slice a m c]] w (TOp gt pa pb V1 V2 w) := by
  have hgt : gt < w.heap.size := Blk.lt hk
  have HN := Lib.hid (fun (w' : World) => new_no bits h1 h2 h3 w')
  have HR := Lib.hid (fun (w' : World) => refNew_no bits h1 h2 h3 w')
  have hb1 := (Below.refl w.heap.size w).alloc (Nat.le_refl _) (.cells #[.int .i64 6, .int .i64 bits, .slice a m c] 47)
  have HK := Lib.hid (Blk.below hk hb1 hgt)
  have HB := Lib.hid hb1
  clear hk hb1
  unfold TOp
  go_enter Tryd.func20, Tryd.ntmps20
  go_wp2_with fail
  refine (HN.out _).mono ?_
  rintro e w' ⟨rfl, rfl⟩
  go_wp2_with fail
  refine (HR.out _).mono ?_
  rintro e w' ⟨rfl, rfl⟩
  go_wp2_with fail
  go_ret
  exact ⟨rfl, grown_below HB.out _, .inl HK.out⟩
set_option maxRecDepth 100000 in
set_option maxHeartbeats 1600000 in
theorem step_none (gt : Nat) (kd bits : Int) (hkd : kd < 1 ∨ 7 < kd) (pa pb V1 V2 : Value) (a : Option Addr) (m c : Nat) (w : World) (hk : TwB w gt pa pb V1 V2) :
    Calls Tryd.prog 20 #[.pointer (some ⟨gt, 0, none⟩), .agg #[.int .i64 kd, .int .i64 bits, .slice a m c]] w (TOp gt pa pb V1 V2 w) := by
  have hgt : gt < w.heap.size := Blk.lt hk
  have hb1 := (Below.refl w.heap.size w).alloc (Nat.le_refl _) (.cells #[.int .i64 kd, .int .i64 bits, .slice a m c] 47)
  have HK := Lib.hid (Blk.below hk hb1 hgt)
  have HB := Lib.hid hb1
  have e1 : (kd == 1) = false := beq_eq_false_iff_ne.2 (by omega)
  have e2 : (kd == 2) = false := beq_eq_false_iff_ne.2 (by omega)
  have e3 : (kd == 3) = false := beq_eq_false_iff_ne.2 (by omega)
  have e4 : (kd == 4) = false := beq_eq_false_iff_ne.2 (by omega)
  have e5 : (kd == 5) = false := beq_eq_false_iff_ne.2 (by omega)
  have e6 : (kd == 6) = false := beq_eq_false_iff_ne.2 (by omega)
  have e7 : (kd == 7) = false := beq_eq_false_iff_ne.2 (by omega)
  clear hk hb1 hkd
  unfold TOp
  go_enter Tryd.func20, Tryd.ntmps20
  go_wp2_with fail
  go_ret
  exact ⟨rfl, grown_below HB.out _, .inl HK.out⟩
end Go.Proofs.YtnikhnpigopihaaDoor
namespace Go.Proofs.YtnikhnpigopihaaDoor
open Go.RowKit
set_option linter.unusedVariables false
set_option linter.unusedSimpArgs false
theorem step_any (gt ga gb k n0 : Nat) (S L : List Nat) (v V1 V2 : Value) (As : List An) (kd bits : Int) (a : Option Addr) (m c : Nat) (l : List Nat) (w : World) (hst : ST w gt ga gb k n0 S L v V1 V2 As.length (As.map An.x) (As.map An.y)) (hb : BIn w a m c l) (hsep : ∀ b, a = some b → 0 < m → ¬ FF gt ga gb v V1 V2 b.block) (htab : Tabs w) (h2 : 2 ≤ w.heap.size) (hL : L.length ≤ 10000000) (hm : m ≤ 10000000) (hN : As.length ≤ 1000000) :
    Calls Tryd.prog 20 #[.pointer (some ⟨gt, 0, none⟩), .agg #[.int .i64 kd, .int .i64 bits, .slice a m c]] w (StepIs gt ga gb L v V1 V2 As m w) := by
  obtain ⟨hk, ht, r1, r2, hne⟩ := hst
  have hst : ST w gt ga gb k n0 S L v V1 V2 As.length (As.map An.x) (As.map An.y) := ⟨hk, ht, r1, r2, hne⟩
  have lgt : gt < w.heap.size := Blk.lt hk
  by_cases k1 : kd = 1
  · subst k1; exact step_1 gt ga gb k n0 S L v V1 V2 As bits a m c l w hst hb hsep htab hL hm
  by_cases k2 : kd = 2
  · subst k2
    exact (step_2 gt ga gb k n0 (gt + 1) As.length S L V1 V2 _ _ bits a m c w hk ht.tw r1 r2 hne (Nat.lt_succ_self _) lgt hN (by omega) htab).mono fun e w' h => KeptIs.step m hst (digN_lt _ _ _ _) (by rw [digN_length k _ S L ht.2.1.2.1 ht.2.1.2.2.1]; have := dgB_le k; omega) h
  by_cases k3 : kd = 3
  · subst k3
    exact (step_3 gt ga gb k n0 (gt + 1) As.length S L V1 V2 _ _ bits a m c w hk ht.tw r1 r2 hne (Nat.lt_succ_self _) lgt hN (by omega) htab).mono fun e w' h => KeptIs.step m hst (state_lt ht.1.1 (goes_bytes (wW_pos k) _ S L rfl ht.2.1.2.2.2.1)) (by rw [state_len ht.1.2.2.1, goes_tail (wW_pos k) _ S L rfl]; have q1 := mod_le k L.length; have q2 : wB k ≤ 8 := (by unfold wB; split <;> omega); omega) h
  by_cases k4 : kd = 4
  · subst k4
    exact (step_4 gt ga gb k n0 S L V1 V2 bits _ w hk ht.tw h2 (by omega) ⟨a, m, c, rfl⟩).mono fun e w' h => TOp.step m hst h
  by_cases k5 : kd = 5
  · subst k5; exact step_5 gt ga gb k n0 S L v V1 V2 As bits a m c w hst htab
  by_cases k6 : kd = 6
  · subst k6
    by_cases b1 : bits = 256
    · subst b1; exact (step_6_yes gt 1 (.inl rfl) _ _ V1 V2 a m c w hk htab h2).mono fun e w' h => TOp.step m hst h
    by_cases b2 : bits = 384
    · subst b2; exact (step_6_yes gt 2 (.inr (.inl rfl)) _ _ V1 V2 a m c w hk htab h2).mono fun e w' h => TOp.step m hst h
    by_cases b3 : bits = 512
    · subst b3; exact (step_6_yes gt 3 (.inr (.inr rfl)) _ _ V1 V2 a m c w hk htab h2).mono fun e w' h => TOp.step m hst h
    exact (step_6_no gt bits b1 b2 b3 _ _ V1 V2 a m c w hk).mono fun e w' h => TOp.step m hst h
  by_cases k7 : kd = 7
  · subst k7; exact (step_7 gt _ _ V1 V2 bits a m c l w hb hk h2 (by omega)).mono fun e w' h => TOp.step m hst h
  exact (step_none gt kd bits (by omega) _ _ V1 V2 a m c w hk).mono fun e w' h => TOp.step m hst h
end Go.Proofs.YtnikhnpigopihaaDoor
namespace Go.Proofs.YtnikhnpigopihaaDoor
open Go.RowKit
set_option linter.unusedVariables false
set_option linter.unusedSimpArgs false
/-- one op of the script -/
structure OpR where
  kd : Int
  bits : Int
  a : Option Addr
  n : Nat
  c : Nat
  l : List Nat
def OpR.cs (x : OpR) : List Value := [.int .i64 x.kd, .int .i64 x.bits, .slice x.a x.n x.c]
/-- the script that came in -/
def SIn (w : World) (P : Option Addr) (np : Nat) (os : List OpR) : Prop :=
  os.length = np ∧ (∀ x ∈ os, BIn w x.a x.n x.c x.l) ∧ (np = 0 ∨ ∃ b off, P = some ⟨b, off, none⟩ ∧ ∀ i x, os[i]? = some x → w.rangeAt b (off + i * 3) x.cs)
/-- how many bytes the first ops have -/
def opsL (os : List OpR) (i : Nat) : Nat := ((os.take i).map OpR.n).sum
theorem opsL_succ (os : List OpR) (i : Nat) (x : OpR) (h : os[i]? = some x) : opsL os (i + 1) = opsL os i + x.n := by
  unfold opsL
  rw [List.take_add_one, h]
  simp
theorem opsL_le (os : List OpR) (i : Nat) : opsL os i ≤ opsL os os.length := by
  unfold opsL
  rw [List.take_length]
  conv => rhs; rw [← List.take_append_drop i os]
  rw [List.map_append, List.sum_append]
  exact Nat.le_add_right _ _
theorem opsL_mem {os : List OpR} {i : Nat} {x : OpR} (h : os[i]? = some x) : x.n ≤ opsL os os.length := by
  have h1 := opsL_succ os i x h
  have h2 := opsL_le os (i + 1)
  omega
theorem range_below {w w' : World} {B b off : Nat} {cs : List Value} (h : w.rangeAt b off cs) (hb : Below w.heap.size w w') : w'.rangeAt b off cs := by
  intro j v hv
  have h1 := h j v hv
  exact (hb.cell (World.block_lt_of_cell? w _ h1)).trans h1
section
variable {w : World} {ops : Array Oper} {rest : List Oper} {o : Oper} {a : Act} {Q : Exit → Act → World → Prop}
/-- a struct is loaded out of a list -/
theorem ldM (hgd : o.guard = none) (ty : TypeId) (x : Operand) (ho : o.op = .load ty x) (b off : Nat) (hx : a.eval x = .pointer (some ⟨b, off, none⟩)) (cs : List Value) (d : TypeDesc) (hr : w.rangeAt b off cs) (hu : Tryd.prog.underlying ty = some d) (hd : d.isRow = true) (hi : (Tryd.prog.info? ty).map (·.size) = some cs.length)
    (h : wpList Tryd.prog ops Q rest (a.put o.dst (.agg cs.toArray)) w) : wpList Tryd.prog ops Q (o :: rest) a w := by
  refine wpList_plain hgd fun K hK => ?_
  unfold Oper.wp execOp
  simp only [ho, hx, Instr.loadAt, Instr.sureAddr, Sem.run_bind, Sem.run_pure, Result.andThen_ok, run_loadVar_mid w b off ty cs d hr hu hd hi]
  exact hK _ _ h
end
theorem info47 : (Tryd.prog.info? 47).map (·.size) = some 3 := by kernel_rfl
theorem built44 (p q : Option Addr) : Tryd.prog.built 44 [(0, .pointer p), (1, .pointer q)] = some [.pointer p, .pointer q, .slice none 0 0, .slice none 0 0].toArray := by kernel_rfl
theorem blk_heap {w w' : World} {g t : Nat} {cs : List Value} (h : Blk w g t cs) (e : w'.heap = w.heap) : Blk w' g t cs := h.of (by rw [e])
theorem hash_heap {w w' : World} {g k n : Nat} {s t : List Nat} (h : HashAt w g k n s t) (e : w'.heap = w.heap) : HashAt w' g k n s t := by
  obtain ⟨h1, h2, h3, h4, h5, h6, r0, h7, h8, h9, h10⟩ := h
  exact ⟨h1, h2, h3, h4, h5, h6, r0, h7, h8, h9, blk_heap h10 e⟩
theorem own_heap {w w' : World} {base e size n : Nat} {v : Value} {xs : List Value} (h : w.ownsRow base e size v n xs) (q : w'.heap = w.heap) : w'.ownsRow base e size v n xs := by
  refine ⟨h.1, ?_⟩
  rcases h.2 with h2 | ⟨g, cap, cur, rfl, hbg, hg, rest⟩
  · exact .inl h2
  · exact .inr ⟨g, cap, cur, rfl, hbg, by rw [q]; exact hg, rest⟩
theorem refat_heap {w w' : World} {g base k n : Nat} {s L : List Nat} (h : RefAt w g base k s n L) (q : w'.heap = w.heap) : RefAt w' g base k s n L := by
  obtain ⟨a1, a2, a3, a4, a5, a6, v, a7, a8⟩ := h
  exact ⟨a1, a2, a3, a4, a5, by rw [q]; exact a6, v, blk_heap a7 q, own_heap a8 q⟩
theorem refv_heap {w w' : World} {g base k n : Nat} {s L : List Nat} {v : Value} (h : RefV w g base k s n L v) (q : w'.heap = w.heap) : RefV w' g base k s n L v := by
  obtain ⟨a1, a2, a3, a4, a5, a6, a7, a8⟩ := h
  exact ⟨a1, a2, a3, a4, a5, by rw [q]; exact a6, blk_heap a7 q, own_heap a8 q⟩
theorem ST.heap {w w' : World} {gt ga gb k n0 N : Nat} {S L : List Nat} {v V1 V2 : Value} {xs ys : List Value} (h : ST w gt ga gb k n0 S L v V1 V2 N xs ys) (q : w'.heap = w.heap) : ST w' gt ga gb k n0 S L v V1 V2 N xs ys := by
  obtain ⟨h1, ⟨h2, h3, h4⟩, h5, h6, h7⟩ := h
  exact ⟨blk_heap h1 q, ⟨hash_heap h2 q, refv_heap h3 q, h4⟩, own_heap h5 q, own_heap h6 q, h7⟩
theorem INV.same {w0 wr w' : World} {gt B M i ga gb k n0 : Nat} {S L : List Nat} {v V1 V2 : Value} {As : List An} (h : INV w0 gt B M i wr ga gb k n0 S L v V1 V2 As) (q : w'.heap = wr.heap) (q1 : w'.os = wr.os) (q2 : w'.tape = wr.tape) (q3 : w'.output = wr.output) : INV w0 gt B M i w' ga gb k n0 S L v V1 V2 As := by
  obtain ⟨h1, h2, h3, h4, h5, h6⟩ := h
  exact ⟨h1.heap q, h2, ⟨q1.trans h3.os, q2.trans h3.tape, q3.trans h3.output, by rw [q]; exact h3.size, fun j hj => by rw [q]; exact h3.block j hj⟩, h4, fun r hr => ⟨own_heap (h5 r hr).1 q, own_heap (h5 r hr).2.1 q, (h5 r hr).2.2⟩, h6⟩
/-- what the second loop keeps -/
def L2 (w0 : World) (gt B : Nat) (pa pb V1 V2 : Value) (As : List An) (i : Nat) (wr : World) : Prop :=
  TwB wr gt pa pb V1 V2 ∧ (∃ xs, wr.ownsRow (gt + 1) 22 1 V1 As.length xs ∧ ∀ j, i ≤ j → j < As.length → xs[j]? = (As.map An.x)[j]?) ∧ wr.ownsRow (gt + 1) 22 1 V2 As.length (As.map An.y) ∧ (∀ r ∈ As.drop i, AnAt wr B r) ∧ Below B w0 wr
/-- the answers' blocks lie apart -/
def Far (gt B : Nat) (V1 V2 : Value) (As : List An) : Prop := (blks As).Nodup ∧ (∀ j ∈ blks As, j ≠ gt ∧ V1.ownBlock ≠ some j ∧ V2.ownBlock ≠ some j) ∧ B ≤ gt ∧ (V1.ownBlock = none ∨ V1.ownBlock ≠ V2.ownBlock)
theorem blks_split {As : List An} {i : Nat} {r : An} (h : As[i]? = some r) : blks As = blks (As.take i) ++ (r.G :: r.H :: blks (As.drop (i + 1))) := by
  have hi := (List.getElem?_eq_some_iff.1 h).1
  have e : As = As.take i ++ (r :: As.drop (i + 1)) := by
    conv => lhs; rw [← List.take_append_drop i As]
    rw [List.drop_eq_getElem_cons hi, (List.getElem?_eq_some_iff.1 h).2]
  conv => lhs; rw [e]
  simp [blks]
theorem L2.next {w0 : World} {gt B : Nat} {pa pb V1 V2 : Value} {As : List An} {i : Nat} {wr w' : World} {r : An} (h : L2 w0 gt B pa pb V1 V2 As i wr) (hfar : Far gt B V1 V2 As) (hr : As[i]? = some r) (hB : B ≤ wr.heap.size)
    (hf : Fr wr w' (fun j => j = r.G ∨ V1.ownBlock = some j)) {xs' : List Value} (ho : w'.ownsRow (gt + 1) 22 1 V1 As.length xs') (hx : ∀ j, i + 1 ≤ j → j < As.length → xs'[j]? = (As.map An.x)[j]?) : L2 w0 gt B pa pb V1 V2 As (i + 1) w' := by
  obtain ⟨h1, ⟨xs, h2, h2'⟩, h3, h4, h5⟩ := h
  obtain ⟨f1, f2, f3, f4⟩ := hfar
  have hi := (List.getElem?_eq_some_iff.1 hr).1
  have hmem : r ∈ As := List.mem_of_getElem? hr
  have hd : As.drop i = r :: As.drop (i + 1) := by rw [List.drop_eq_getElem_cons hi, (List.getElem?_eq_some_iff.1 hr).2]
  have hrA := h4 r (by rw [hd]; exact List.mem_cons_self)
  have hg := f2 _ (mem_blks hmem).1
  have hV1 : ∀ j, V1.ownBlock = some j → gt + 1 ≤ j := fun j hj => (h2.lt j hj).1
  have hs := blks_split hr
  rw [hs] at f1
  have hnd := (List.nodup_append.1 f1).2.1
  have hG : ∀ j ∈ blks (As.drop (i + 1)), j ≠ r.G := fun j hj e => by
    subst e
    exact (List.nodup_cons.1 hnd).1 (List.mem_cons_of_mem _ hj)
  refine ⟨blk_fr h1 hf ?_, ⟨xs', ho, hx⟩, own_fr h3 hf ?_, fun q hq => ?_, ⟨hf.1.trans h5.os, hf.2.1.trans h5.tape, hf.2.2.1.trans h5.output, Nat.le_trans h5.size hf.2.2.2.1, fun j hj => (hf.2.2.2.2 j (by omega) ?_).trans (h5.block j hj)⟩⟩
  · rintro (q | q)
    · exact hg.1 q.symm
    · have := hV1 _ q; omega
  · rintro j hj (q | q)
    · exact hg.2.2 (q ▸ hj)
    · rcases f4 with f4 | f4
      · rw [f4] at q; cases q
      · exact f4 (q.trans hj.symm)
  · have hqA := h4 q (by rw [hd]; exact List.mem_cons_of_mem _ hq)
    have hq' : q ∈ As := List.mem_of_mem_drop hq
    refine hqA.fr hf ?_ ?_
    · rintro (e | e)
      · exact hG _ (mem_blks hq).1 e
      · exact (f2 _ (mem_blks hq').1).2.1 e
    · rintro (e | e)
      · exact hG _ (mem_blks hq).2 e
      · exact (f2 _ (mem_blks hq').2).2.1 e
  · rintro (q | q)
    · have := hrA.lt.1.1; omega
    · have := hV1 _ q; omega
end Go.Proofs.YtnikhnpigopihaaDoor
namespace Go.Proofs.YtnikhnpigopihaaDoor
open Go.RowKit
set_option linter.unusedVariables false
set_option linter.unusedSimpArgs false
theorem wpOp_append {ops : Array Oper} {Q : Exit → Act → World → Prop} {i : Nat} {oi : Oper} {a : Act} {W : World} {K : Act → World → Prop} (hi : ops[i]? = some oi) (hw : Region.wanted oi (yielded ops a.tmps) = true) (s x : Operand)
    (ho : oi.op = .call { callee := .builtin .append, args := #[s, x], argTypes := #[22, 22] })
    (base : Nat) (v : Value) (n : Nat) (xs : List Nat) (hs : a.eval s = v) (hown : W.ownsRow base 5 1 v n (bytesV xs))
    (b m c : Nat) (l : List Nat) (hx : a.eval x = .slice (some ⟨b, 0, none⟩) m c) (hr : BIn W (some ⟨b, 0, none⟩) m c l) (hb : n + m ≤ 140737488355328) (hbase : base ≤ W.heap.size)
    (h : ∀ v' w', w'.ownsRow base 5 1 v' (n + m) (bytesV (xs ++ l)) → W.grownBy w' v.ownBlock → OwnAt W v v' → K (a.put oi.dst v') w') : wpOp Tryd.prog ops Q i K a W := by
  obtain ⟨i0, hi0, hz0, hz1, hz2⟩ := info_parts info5
  obtain ⟨⟨hl, hm, hlt, hrow⟩, hc1, hc2, _, hnil⟩ := hr
  have hone : ∀ u ∈ bytesV l, u.oneCell' = true := by
    intro u hu; obtain ⟨y, _, rfl⟩ := List.mem_map.1 hu; rfl
  have hcs : ∀ j u, (bytesV l)[j]? = some u → W.cell? ((⟨b, 0, none⟩ : Addr).add j) = some u := by
    intro j u hu
    have hj : j < l.length := by
      rcases Nat.lt_or_ge j l.length with h | h
      · exact h
      · rw [List.getElem?_eq_none (by simpa [bytesV] using h)] at hu; cases hu
    obtain ⟨b', off, hA, hc⟩ := hrow.resolve_left (by omega)
    simp only [Option.some.injEq, Addr.mk.injEq, and_true] at hA
    obtain ⟨rfl, rfl⟩ := hA
    have hadd : (⟨b, 0, none⟩ : Addr).add j = ⟨b, 0 + j, none⟩ := by
      simp only [Addr.add]; split
      · rename_i h; subst h; rfl
      · rfl
    rw [hadd, hc j (by omega)]
    rw [← hu]
    simp [bytesV, List.getD_eq_getElem?_getD, List.getElem?_eq_getElem hj]
  obtain ⟨v', w', hrun, h2, h3, h4, h5⟩ := run_append_own_at (P := Tryd.prog) W base 22 oi.type 5 i0 (.int .u8 0) 1 1 Tryd.underlying22 hi0 hz0 hz1 hz2 rfl (by decide) v n (bytesV xs) hown ⟨b, 0, none⟩ m c (bytesV l) (by simpa [bytesV] using hl) hcs hone (by simp only [maxLen]; omega) (by omega) hbase
  refine wpOp_run hi hw (v := v') (W2 := w') ?_ (h v' w' (by simpa [bytesV] using h2) h3 (h5.imp id fun e => ⟨_, e, Nat.le_refl _⟩))
  unfold execOp
  simp only [ho, resolve, invoke, builtin, Sem.run_bind, Sem.run_pure, Result.andThen_ok, List.map_toArray, List.map_cons, List.map_nil, hs, hx, hrun]
theorem own22_form {w : World} {base N : Nat} {V : Value} {xs : List Value} (h : w.ownsRow base 22 1 V N xs) : ∃ A c, V = .slice A N c ∧ N ≤ c ∧ c ≤ maxLen ∧ (0 < N → ∃ g, A = some ⟨g, 0, none⟩) := by
  rcases h.2 with ⟨rfl, rfl⟩ | ⟨g, cap, cur, rfl, _, _, h1, h2, _⟩
  · exact ⟨none, 0, rfl, Nat.le_refl _, Nat.zero_le _, fun h => by omega⟩
  · exact ⟨_, cap, rfl, h1, h2, fun _ => ⟨g, rfl⟩⟩
theorem L2.below {w0 : World} {gt B : Nat} {pa pb V1 V2 : Value} {As : List An} {i : Nat} {wr w' : World} (h : L2 w0 gt B pa pb V1 V2 As i wr) (hB : B ≤ wr.heap.size) (hb : Below wr.heap.size wr w') : L2 w0 gt B pa pb V1 V2 As i w' := by
  obtain ⟨h1, ⟨xs, h2, h2'⟩, h3, h4, h5⟩ := h
  exact ⟨Blk.below' h1 hb, ⟨xs, own_below h2 hb, h2'⟩, own_below h3 hb, fun r hr => ⟨own_below (h4 r hr).1 hb, own_below (h4 r hr).2.1 hb, (h4 r hr).2.2⟩, h5.trans (hb.mono hB)⟩
theorem set_lt {l : List Nat} (h : ∀ x ∈ l, x < 256) (k y : Nat) (hy : y < 256) : ∀ x ∈ l.set k y, x < 256 := fun x hx => by
  rcases List.mem_or_eq_of_mem_set hx with h1 | h1
  · exact h x h1
  · omega
/-- the answers' two lists, from where they lie -/
theorem row_of {w : World} {base G c : Nat} {l : List Nat} (h : w.ownsRow base 5 1 (.slice (some ⟨G, 0, none⟩) l.length c) l.length (bytesV l)) (hl : ∀ x ∈ l, x < 256) (hn : l.length ≤ 300) : ByteRow w (some ⟨G, 0, none⟩) l.length l := by
  obtain ⟨a, c2, he, hin, _⟩ := own_in h hl (by omega)
  simp only [Value.slice.injEq] at he
  obtain ⟨rfl, _, rfl⟩ := he
  exact hin.1
theorem bin_77 (w : World) : BIn (w.alloc (.cells #[.int .u8 7, .int .u8 7] 5)) (some ⟨w.heap.size, 0, none⟩) 2 2 [7, 7] := by
  refine ⟨⟨rfl, by unfold maxLen; omega, by decide, .inr ⟨w.heap.size, 0, rfl, fun i hi => ?_⟩⟩, Nat.le_refl _, by unfold maxLen; omega, by omega, fun h => by cases h⟩
  have hi' : i = 0 ∨ i = 1 := by omega
  rcases hi' with rfl | rfl <;> simp
end Go.Proofs.YtnikhnpigopihaaDoor
namespace Go.Proofs.YtnikhnpigopihaaDoor
open Go.RowKit
set_option linter.unusedVariables false
set_option linter.unusedSimpArgs false
set_option maxRecDepth 100000 in
set_option maxHeartbeats 1600000 in
theorem plays_no (bits : Int) (h1 : bits ≠ 256) (h2 : bits ≠ 384) (h3 : bits ≠ 512) (P : Option Addr) (np cp : Nat) (w : World) (htab : Tabs w) :
    Calls Tryd.prog 4 #[.int .i64 bits, .slice P np cp] w fun e w' => e = .returned (.bool true) ∧ Below w.heap.size w w' := by
  have HA := Lib.hid (awake_any w htab)
  have HN := Lib.hid (fun (w' : World) => new_no bits h1 h2 h3 w')
  have HR := Lib.hid (fun (w' : World) => refNew_no bits h1 h2 h3 w')
  clear htab
  go_enter Tryd.func4, Tryd.ntmps4
  go_wp2_with fail
  refine HA.out.mono ?_
  rintro e w1 ⟨rfl, hb0⟩
  go_wp2_with fail
  refine (HN.out _).mono ?_
  rintro e w' ⟨rfl, rfl⟩
  go_wp2_with fail
  refine (HR.out _).mono ?_
  rintro e w' ⟨rfl, rfl⟩
  go_wp2_with fail
  go_ret
  exact ⟨rfl, hb0⟩
/-- what comes behind the first loop: what the second one wants -/
theorem inv_far {w0 wr : World} {gt B M i ga gb k n0 : Nat} {S L : List Nat} {v V1 V2 : Value} {As : List An} (h : INV w0 gt B M i wr ga gb k n0 S L v V1 V2 As) :
    Far gt B V1 V2 As ∧ L2 w0 gt B (.pointer (some ⟨ga, 0, none⟩)) (.pointer (some ⟨gb, 0, none⟩)) V1 V2 As 0 wr := by
  obtain ⟨h1, h2, h3, h4, h5, h6, h7, h8⟩ := h
  refine ⟨⟨h6, fun j hj => ⟨fun e => h7 j hj (.inl e), fun e => h7 j hj (.inr (.inr (.inr (.inr (.inl e))))), fun e => h7 j hj (.inr (.inr (.inr (.inr (.inr e)))))⟩, h2 gt (.inl rfl), h1.2.2.2.2⟩, h1.1, ⟨_, h1.2.2.1, fun _ _ _ => rfl⟩, h1.2.2.2.1, fun r hr => h5 r (List.mem_of_mem_drop hr), h3⟩
set_option maxRecDepth 100000 in
set_option maxHeartbeats 6400000 in
theorem plays_yes (k0 : Nat) (hk0 : IsKind k0) (P : Option Addr) (np cp : Nat) (os : List OpR) (w : World) (htab : Tabs w) (h2 : 2 ≤ w.heap.size) (hin : SIn w P np os) (hnp : np ≤ 1048576) (hsum : opsL os os.length ≤ 1048576) :
    Calls Tryd.prog 4 #[.int .i64 (bitsK k0), .slice P np cp] w fun e w' => e = .returned (.bool true) ∧ Below w.heap.size w w' := by
  have HA := Lib.hid (awake_any w htab)
  have HTAB := Lib.hid htab
  have HIN := Lib.hid hin
  have HSUM := Lib.hid hsum
  have HN := Lib.hid (fun (w' : World) (h : Below w.heap.size w w') => new_any k0 hk0 w' (htab.below h) (Nat.le_trans h2 h.size))
  have HR := Lib.hid (fun (w' : World) => refNew_any k0 hk0 w')
  obtain ⟨bits, hbits⟩ : ∃ bits, bitsK k0 = bits := ⟨_, rfl⟩
  rw [hbits] at HN HR ⊢
  clear htab hin hsum hbits
  go_enter Tryd.func4, Tryd.ntmps4
  go_wp2_with fail
  refine HA.out.mono ?_
  rintro e w1 ⟨rfl, hb0⟩
  have HB1 := Lib.hid hb0
  clear hb0 HA
  go_wp2_with fail
  refine (HN.out w1 HB1.out).mono ?_
  rintro e w2 ⟨ga, rfl, hga, hh, hb2⟩
  have HH2 := Lib.hid hh.2
  have HB2 := Lib.hid (HB1.out.trans (hb2.mono HB1.out.size))
  have hgaw := Nat.le_trans HB1.out.size hga
  clear hh hb2 HN hga
  go_wp2_with fail
  refine (HR.out w2).mono ?_
  rintro e w3 ⟨gb, rfl, hgb, hr, hb3⟩
  have hab : ga < gb := Nat.lt_of_lt_of_le HH2.out.lt hgb
  have HT3 := Lib.hid (show TW w3 ga gb k0 0 (firstN k0) [] from ⟨HH2.out.belowB hb3 HH2.out.lt, hr, hab, Nat.zero_mod _, by simp⟩)
  have HB3 := Lib.hid (HB2.out.trans (hb3.mono HB2.out.size))
  clear hr hb3 HR HH2 HB2 HB1
  have HBU := Lib.hid (built44 (some ⟨ga, 0, none⟩) (some ⟨gb, 0, none⟩))
  go_wp2_with (refine wpList_build_is rfl 44 _ rfl [.pointer (some ⟨ga, 0, none⟩), .pointer (some ⟨gb, 0, none⟩), .slice none 0 0, .slice none 0 0].toArray ?hb ?_)
  case hb => exact HBU.out
  clear HBU
  obtain ⟨gt, hgt⟩ : ∃ gt, w3.heap.size = gt := ⟨_, rfl⟩
  have hgtw : w.heap.size ≤ gt := hgt ▸ HB3.out.size
  obtain ⟨w4, hw4⟩ : ∃ w4, w3.alloc (.cells #[.pointer (some ⟨ga, 0, none⟩), .pointer (some ⟨gb, 0, none⟩), .slice none 0 0, .slice none 0 0] 44) = w4 := ⟨_, rfl⟩
  have hbe4 : Below w3.heap.size w3 w4 := hw4 ▸ (Below.refl w3.heap.size w3).alloc (Nat.le_refl _) _
  have hk4 : Blk w4 gt 44 [.pointer (some ⟨ga, 0, none⟩), .pointer (some ⟨gb, 0, none⟩), .slice none 0 0, .slice none 0 0] := by rw [← hw4, ← hgt]; exact Blk.new w3 44 _
  have hT4 := HT3.out.below hbe4
  obtain ⟨v4, hv4⟩ := hT4.v
  have HINV := Lib.hid (show INV w gt w.heap.size (opsL os 0) 0 w4 ga gb k0 0 (firstN k0) [] v4 (.slice none 0 0) (.slice none 0 0) [] from by
    refine ⟨⟨hk4, hv4, World.ownsRow_nil _ _ _ _, World.ownsRow_nil _ _ _ _, .inl rfl⟩, fun j hj => ?_, HB3.out.trans (hbe4.mono HB3.out.size), Nat.le_refl _, by simp, by simp [blks], by simp [blks], by simp, by simp⟩
    rcases hj with q | q | q | q | q | q
    · omega
    · omega
    · omega
    · have := (hv4.blk.2.2.lt j q).1; omega
    · cases q
    · cases q)
  rw [hgt, hw4]
  clear hw4 hbe4 hk4 hT4 hv4 HT3 HB3 hab hgaw
  go_wp2_with fail
  go_loopw [11] (fun v11 wr => ∃ (i ga gb k n0 : Nat) (S L : List Nat) (v V1 V2 : Value) (As : List An), v11 = .int .i64 i ∧ i ≤ np ∧ i ≤ 200 ∧ INV w gt w.heap.size (opsL os i) i wr ga gb k n0 S L v V1 V2 As) (fun v11 _ => np - (intOf v11).toNat)
  case atStart => exact ⟨0, ga, gb, k0, 0, _, _, _, _, _, _, rfl, by omega, by omega, HINV.out⟩
  case round =>
    clear HINV
    obtain ⟨i, ga, gb, k, n0, S, L, v, V1, V2, As, rfl, hi1, hi2, hinv⟩ := hrel
    have HINV := Lib.hid hinv
    clear hinv
    by_cases hq : i < np ∧ i < 200
    · obtain ⟨hq1, hq2⟩ := hq
      have hq1i : (i : Int) < (np : Int) := by omega
      have hq2i : (i : Int) < 200 := by omega
      obtain ⟨b, off, rfl, hcell⟩ := HIN.out.2.2.resolve_left (by omega)
      obtain ⟨x, hx⟩ : ∃ x, os[i]? = some x := ⟨_, List.getElem?_eq_getElem (by rw [HIN.out.1]; exact hq1)⟩
      have HC := Lib.hid (range_below (B := 0) (hcell i x hx) HINV.out.2.2.1)
      have HX := Lib.hid hx
      have HBX := Lib.hid (HIN.out.2.1 x (List.mem_of_getElem? hx))
      have HSTEP := Lib.hid (step_any gt ga gb k n0 S L v V1 V2 As x.kd x.bits x.a x.n x.c x.l wr HINV.out.1 (HBX.out.below HINV.out.2.2.1) (fun b' hb' hn' hF => by have h1 := bin_block HBX.out b' hb' hn'; have h2 := HINV.out.2.1 _ hF; omega) (HTAB.out.below HINV.out.2.2.1) (Nat.le_trans h2 HINV.out.2.2.1.size) (by have h1 := HINV.out.2.2.2.2.2.2.2.1; have h2 := opsL_le os i; have h3 := HSUM.out; omega) (by have h1 := opsL_mem hx; have h3 := HSUM.out; omega) (by have h1 := HINV.out.2.2.2.2.2.2.2.2; omega))
      clear hcell hx
      go_wp2_with (refine ldM rfl 47 (.tmp 68) rfl b (off + i * 3) rfl x.cs _ HC.out Tryd.underlying47 rfl info47 ?_)
      refine HSTEP.out.mono ?_
      rintro e w5 hs5
      obtain ⟨rfl, ga, gb, k, n0, S, L, v, V1, V2, As, hinv5⟩ := inv_step HINV.out hs5
      have HINV5 := Lib.hid (show INV w gt w.heap.size (opsL os (i + 1)) (i + 1) w5 ga gb k n0 S L v V1 V2 As from by rw [opsL_succ os i x HX.out]; exact hinv5)
      clear hs5 hinv5 HINV HSTEP HC HBX
      have hk5 : Blk w5 gt 44 [.pointer (some ⟨ga, 0, none⟩), .pointer (some ⟨gb, 0, none⟩), V1, V2] := HINV5.out.1.1
      have kc0 : w5.cell? ⟨gt, 0, none⟩ = some (.pointer (some ⟨ga, 0, none⟩)) := hk5.cell 0
      have kc1 : w5.cell? ⟨gt, 1, none⟩ = some (.pointer (some ⟨gb, 0, none⟩)) := hk5.cell 1
      have ht5 := HINV5.out.1.2.1
      have hl5 : L.length ≤ 10000000 := by have h1 := HINV5.out.2.2.2.2.2.2.2.1; have h2 := opsL_le os (i + 1); have h3 := HSUM.out; omega
      have HL1 := Lib.hid (fun (w'' : World) (q : w''.heap = w5.heap) => len_any ga k (n0 + L.length) _ _ w'' (hash_heap ht5.1 q))
      have HL2 := Lib.hid (fun (w'' : World) (q : w''.heap = w5.heap) => refLen_any gb (gb + 1) k n0 S L w'' (refat_heap ht5.2.1.at q) (by have := ht5.2.2.2.2; omega) (by omega))
      clear ht5 hk5 hl5
      generalize n0 + L.length = tot at HL1 HL2
      go_wp2_with fail
      go_quiet (first | (go_at_call 21; exact Calls.quiet_of_same (flipC (HL1.out _ (by rfl)))) | (go_at_call 22; exact Calls.quiet_of (HL2.out _ (by rfl))))
      go_wp2_with fail
      go_roundw
      case rel => exact ⟨i + 1, ga, gb, k, n0, S, L, v, V1, V2, As, by go_num, by omega, by omega, HINV5.out.same rfl rfl rfl rfl⟩
      case measure => simp [intOf]; omega
    · obtain ⟨hfar, hl2⟩ := inv_far HINV.out
      have HFAR := Lib.hid hfar
      have HL0 := Lib.hid hl2
      have hgtB : w.heap.size ≤ gt := hfar.2.2.1
      have hAs : As.length ≤ 200 := by have := HINV.out.2.2.2.2.2.2.2.2; omega
      have hcase : (i = np) ∨ (i < np ∧ i = 200) := by omega
      obtain ⟨xs0, ho0, _⟩ := hl2.2.1
      obtain ⟨A1, cp1, rfl, hc1, hm1, hA1⟩ := own22_form ho0
      obtain ⟨A2, cp2, rfl, hc2, hm2, hA2⟩ := own22_form hl2.2.2.1
      have HA1 := Lib.hid hA1
      have HA2 := Lib.hid hA2
      unfold maxLen at hm1 hm2
      clear HINV hfar hl2 ho0 hA1 hA2
      generalize (Value.pointer (some ⟨ga, 0, none⟩)) = pa at *
      generalize (Value.pointer (some ⟨gb, 0, none⟩)) = pb at *
      rcases hcase with rfl | ⟨hq7, rfl⟩
      all_goals
        have k20 : wr.cell? ⟨gt, 2, none⟩ = some (.slice A1 As.length cp1) := HL0.out.1.cell 2
        go_wp2_with fail
        clear k20
        go_loopw [13] (fun v13 wr => ∃ i : Nat, v13 = .int .i64 i ∧ i ≤ As.length ∧ L2 w gt w.heap.size pa pb (.slice A1 As.length cp1) (.slice A2 As.length cp2) As i wr) (fun v13 _ => As.length - (intOf v13).toNat)
        case atStart => exact ⟨0, rfl, Nat.zero_le _, HL0.out⟩
        case round =>
          clear HL0
          obtain ⟨i2, rfl, hi3, hl2⟩ := hrel
          have HL := Lib.hid hl2
          clear hl2
          have kc2 : wr.cell? ⟨gt, 2, none⟩ = some (.slice A1 As.length cp1) := HL.out.1.cell 2
          by_cases hlt : i2 < As.length
          · have hlti : (i2 : Int) < (As.length : Int) := by omega
            obtain ⟨g1, rfl⟩ := HA1.out (by omega)
            obtain ⟨g2, rfl⟩ := HA2.out (by omega)
            obtain ⟨⟨G, c1, H, c2, l⟩, hr⟩ : ∃ r, As[i2]? = some r := ⟨_, List.getElem?_eq_getElem hlt⟩
            have HRW := Lib.hid hr
            have hmem := List.mem_of_getElem? hr
            obtain ⟨xs, ho1, hxs⟩ := HL.out.2.1
            have HXS := Lib.hid (show xs[i2]? = some (.slice (some ⟨G, 0, none⟩) l.length c1) from by rw [hxs i2 (Nat.le_refl _) hlt]; simp [hr, An.x])
            have kc3 : wr.cell? ⟨gt, 3, none⟩ = some (.slice (some ⟨g2, 0, none⟩) As.length cp2) := HL.out.1.cell 3
            have kx : wr.cell? ⟨g1, i2, none⟩ = some (.slice (some ⟨G, 0, none⟩) l.length c1) := (ho1.cellAt i2 (by omega)).trans HXS.out
            have ky : wr.cell? ⟨g2, i2, none⟩ = some (.slice (some ⟨H, 0, none⟩) l.length c2) := (HL.out.2.2.1.cellAt i2 (by omega)).trans (by simp [hr, An.y])
            have han : AnAt wr w.heap.size ⟨G, c1, H, c2, l⟩ := HL.out.2.2.2.1 _ (by rw [List.drop_eq_getElem_cons hlt, (List.getElem?_eq_some_iff.1 hr).2]; exact List.mem_cons_self)
            have hoG : wr.ownsRow w.heap.size 5 1 (.slice (some ⟨G, 0, none⟩) l.length c1) l.length (bytesV l) := han.1
            have hoH : wr.ownsRow w.heap.size 5 1 (.slice (some ⟨H, 0, none⟩) l.length c2) l.length (bytesV l) := han.2.1
            have hl256 : ∀ x ∈ l, x < 256 := han.2.2.1
            have hl300 : l.length ≤ 300 := han.2.2.2
            have hGF := HFAR.out.2.1 G (mem_blks hmem).1
            have hGgt : G ≠ gt := hGF.1
            have hV1G : (Value.slice (some ⟨g1, 0, none⟩) As.length cp1).ownBlock ≠ some G := hGF.2.1
            have hg1G : g1 ≠ G := fun e => hV1G (by rw [e]; rfl)
            have HSAME := Lib.hid (fun (w'' : World) (q1 : w''.ownsRow w.heap.size 5 1 (.slice (some ⟨G, 0, none⟩) l.length c1) l.length (bytesV l)) (q2 : w''.ownsRow w.heap.size 5 1 (.slice (some ⟨H, 0, none⟩) l.length c2) l.length (bytesV l)) => same_eq (some ⟨G, 0, none⟩) (some ⟨H, 0, none⟩) l.length c1 c2 l w'' (row_of q1 hl256 hl300) (row_of q2 hl256 hl300))
            have HOH := Lib.hid hoH
            have HO2 := Lib.hid HL.out.2.2.1
            have HYS := Lib.hid (show (As.map An.y)[i2]? = some (.slice (some ⟨H, 0, none⟩) l.length c2) from by simp [hr, An.y])
            have HO1 := Lib.hid ho1
            have HXJ := Lib.hid hxs
            have HOG := Lib.hid hoG
            have HLT := Lib.hid hl256
            have hwB : w.heap.size ≤ wr.heap.size := HL.out.2.2.2.2.size
            clear hr hmem ho1 hxs han hoG hoH hl256 hGF
            go_wp2_with fail
            refine wp_region_G (fun w_ => Blk w_ gt 44 [pa, pb, .slice (some ⟨g1, 0, none⟩) As.length cp1, .slice (some ⟨g2, 0, none⟩) As.length cp2] ∧ w_.ownsRow (gt + 1) 22 1 (.slice (some ⟨g1, 0, none⟩) As.length cp1) As.length xs ∧ w_.ownsRow (gt + 1) 22 1 (.slice (some ⟨g2, 0, none⟩) As.length cp2) As.length (As.map An.y) ∧ w_.ownsRow w.heap.size 5 1 (.slice (some ⟨G, 0, none⟩) l.length c1) l.length (bytesV l) ∧ w_.ownsRow w.heap.size 5 1 (.slice (some ⟨H, 0, none⟩) l.length c2) l.length (bytesV l)) 15 (by kernel_rfl) ⟨Blk.drew HL.out.1, own_heap HO1.out rfl, own_heap HO2.out rfl, own_heap HOG.out rfl, own_heap HOH.out rfl⟩ ?_
            refine wpAnyG_take (oi := _) (v := _) (fun _ _ hS_ hb_ => ⟨hS_.1.gr hb_, own_below hS_.2.1 hb_, own_below hS_.2.2.1 hb_, own_below hS_.2.2.2.1 hb_, own_below hS_.2.2.2.2 hb_⟩) (i := 0) rfl (by kernel_rfl) (fun _ _ _ h => h) (pureG (by rfl) (by intro w; go_simp; first | done | with_reducible rfl)) ?_
            try simp only [Act.put, List.getElem_toArray, List.getElem_cons_succ, List.getElem_cons_zero, List.setIfInBounds_toArray, List.set_cons_zero, List.set_cons_succ]
            refine wpAnyG_take (oi := _) (v := _) (fun _ _ hS_ hb_ => ⟨hS_.1.gr hb_, own_below hS_.2.1 hb_, own_below hS_.2.2.1 hb_, own_below hS_.2.2.2.1 hb_, own_below hS_.2.2.2.2 hb_⟩) (i := 1) rfl (by kernel_rfl) (fun _ _ _ h => h) (pureG (by rfl) (by intro w; go_simp; first | done | with_reducible rfl)) ?_
            try simp only [Act.put, List.getElem_toArray, List.getElem_cons_succ, List.getElem_cons_zero, List.setIfInBounds_toArray, List.set_cons_zero, List.set_cons_succ]
            refine wpAnyG_take (oi := _) (v := _) (fun _ _ hS_ hb_ => ⟨hS_.1.gr hb_, own_below hS_.2.1 hb_, own_below hS_.2.2.1 hb_, own_below hS_.2.2.2.1 hb_, own_below hS_.2.2.2.2 hb_⟩) (i := 2) rfl (by kernel_rfl) (fun _ _ _ h => h) (pureG (by rfl) (by intro w; go_simp; first | done | with_reducible rfl)) ?_
            try simp only [Act.put, List.getElem_toArray, List.getElem_cons_succ, List.getElem_cons_zero, List.setIfInBounds_toArray, List.set_cons_zero, List.set_cons_succ]
            refine wpAnyG_take (oi := _) (v := _) (fun _ _ hS_ hb_ => ⟨hS_.1.gr hb_, own_below hS_.2.1 hb_, own_below hS_.2.2.1 hb_, own_below hS_.2.2.2.1 hb_, own_below hS_.2.2.2.2 hb_⟩) (i := 3) rfl (by kernel_rfl) (fun _ _ _ h => h) (worldG (by rfl) (by intro w_ hS_; have q1 : w_.cell? ⟨gt, 2, none⟩ = some (.slice (some ⟨g1, 0, none⟩) As.length cp1) := hS_.1.cell 2; go_simp; first | done | with_reducible rfl)) ?_
            try simp only [Act.put, List.getElem_toArray, List.getElem_cons_succ, List.getElem_cons_zero, List.setIfInBounds_toArray, List.set_cons_zero, List.set_cons_succ]
            refine wpAnyG_take (oi := _) (v := _) (fun _ _ hS_ hb_ => ⟨hS_.1.gr hb_, own_below hS_.2.1 hb_, own_below hS_.2.2.1 hb_, own_below hS_.2.2.2.1 hb_, own_below hS_.2.2.2.2 hb_⟩) (i := 4) rfl (by kernel_rfl) (fun _ _ _ h => h) (pureG (by rfl) (by intro w; go_simp; first | done | with_reducible rfl)) ?_
            try simp only [Act.put, List.getElem_toArray, List.getElem_cons_succ, List.getElem_cons_zero, List.setIfInBounds_toArray, List.set_cons_zero, List.set_cons_succ]
            refine wpAnyG_take (oi := _) (v := _) (fun _ _ hS_ hb_ => ⟨hS_.1.gr hb_, own_below hS_.2.1 hb_, own_below hS_.2.2.1 hb_, own_below hS_.2.2.2.1 hb_, own_below hS_.2.2.2.2 hb_⟩) (i := 5) rfl (by kernel_rfl) (fun _ _ _ h => h) (pureG (by rfl) (by intro w; go_simp; first | done | with_reducible rfl)) ?_
            try simp only [Act.put, List.getElem_toArray, List.getElem_cons_succ, List.getElem_cons_zero, List.setIfInBounds_toArray, List.set_cons_zero, List.set_cons_succ]
            refine wpAnyG_take (oi := _) (v := _) (fun _ _ hS_ hb_ => ⟨hS_.1.gr hb_, own_below hS_.2.1 hb_, own_below hS_.2.2.1 hb_, own_below hS_.2.2.2.1 hb_, own_below hS_.2.2.2.2 hb_⟩) (i := 6) rfl (by kernel_rfl) (fun _ _ _ h => h) (worldG (by rfl) (by intro w_ hS_; have q1 : w_.cell? ⟨g1, i2, none⟩ = some (.slice (some ⟨G, 0, none⟩) l.length c1) := (hS_.2.1.cellAt i2 (by omega)).trans HXS.out; go_simp; first | done | with_reducible rfl)) ?_
            try simp only [Act.put, List.getElem_toArray, List.getElem_cons_succ, List.getElem_cons_zero, List.setIfInBounds_toArray, List.set_cons_zero, List.set_cons_succ]
            refine wpAnyG_take (oi := _) (v := _) (fun _ _ hS_ hb_ => ⟨hS_.1.gr hb_, own_below hS_.2.1 hb_, own_below hS_.2.2.1 hb_, own_below hS_.2.2.2.1 hb_, own_below hS_.2.2.2.2 hb_⟩) (i := 7) rfl (by kernel_rfl) (fun _ _ _ h => h) (pureG (by rfl) (by intro w; go_simp; first | done | with_reducible rfl)) ?_
            try simp only [Act.put, List.getElem_toArray, List.getElem_cons_succ, List.getElem_cons_zero, List.setIfInBounds_toArray, List.set_cons_zero, List.set_cons_succ]
            refine wpAnyG_take (oi := _) (v := _) (fun _ _ hS_ hb_ => ⟨hS_.1.gr hb_, own_below hS_.2.1 hb_, own_below hS_.2.2.1 hb_, own_below hS_.2.2.2.1 hb_, own_below hS_.2.2.2.2 hb_⟩) (i := 8) rfl (by kernel_rfl) (fun _ _ _ h => h) (pureG (by rfl) (by intro w; go_simp; first | done | with_reducible rfl)) ?_
            try simp only [Act.put, List.getElem_toArray, List.getElem_cons_succ, List.getElem_cons_zero, List.setIfInBounds_toArray, List.set_cons_zero, List.set_cons_succ]
            refine wpAnyG_take (oi := _) (v := _) (fun _ _ hS_ hb_ => ⟨hS_.1.gr hb_, own_below hS_.2.1 hb_, own_below hS_.2.2.1 hb_, own_below hS_.2.2.2.1 hb_, own_below hS_.2.2.2.2 hb_⟩) (i := 9) rfl (by kernel_rfl) (fun _ _ _ h => h) (pureG (by rfl) (by intro w; go_simp; first | done | with_reducible rfl)) ?_
            try simp only [Act.put, List.getElem_toArray, List.getElem_cons_succ, List.getElem_cons_zero, List.setIfInBounds_toArray, List.set_cons_zero, List.set_cons_succ]
            refine wpAnyG_take (oi := _) (v := _) (fun _ _ hS_ hb_ => ⟨hS_.1.gr hb_, own_below hS_.2.1 hb_, own_below hS_.2.2.1 hb_, own_below hS_.2.2.2.1 hb_, own_below hS_.2.2.2.2 hb_⟩) (i := 10) rfl (by kernel_rfl) (fun _ _ _ h => h) (worldG (by rfl) (by intro w_ hS_; have q1 : w_.cell? ⟨gt, 3, none⟩ = some (.slice (some ⟨g2, 0, none⟩) As.length cp2) := hS_.1.cell 3; go_simp; first | done | with_reducible rfl)) ?_
            try simp only [Act.put, List.getElem_toArray, List.getElem_cons_succ, List.getElem_cons_zero, List.setIfInBounds_toArray, List.set_cons_zero, List.set_cons_succ]
            refine wpAnyG_take (oi := _) (v := _) (fun _ _ hS_ hb_ => ⟨hS_.1.gr hb_, own_below hS_.2.1 hb_, own_below hS_.2.2.1 hb_, own_below hS_.2.2.2.1 hb_, own_below hS_.2.2.2.2 hb_⟩) (i := 11) rfl (by kernel_rfl) (fun _ _ _ h => h) (pureG (by rfl) (by intro w; go_simp; first | done | with_reducible rfl)) ?_
            try simp only [Act.put, List.getElem_toArray, List.getElem_cons_succ, List.getElem_cons_zero, List.setIfInBounds_toArray, List.set_cons_zero, List.set_cons_succ]
            refine wpAnyG_take (oi := _) (v := _) (fun _ _ hS_ hb_ => ⟨hS_.1.gr hb_, own_below hS_.2.1 hb_, own_below hS_.2.2.1 hb_, own_below hS_.2.2.2.1 hb_, own_below hS_.2.2.2.2 hb_⟩) (i := 12) rfl (by kernel_rfl) (fun _ _ _ h => h) (pureG (by rfl) (by intro w; go_simp; first | done | with_reducible rfl)) ?_
            try simp only [Act.put, List.getElem_toArray, List.getElem_cons_succ, List.getElem_cons_zero, List.setIfInBounds_toArray, List.set_cons_zero, List.set_cons_succ]
            refine wpAnyG_take (oi := _) (v := _) (fun _ _ hS_ hb_ => ⟨hS_.1.gr hb_, own_below hS_.2.1 hb_, own_below hS_.2.2.1 hb_, own_below hS_.2.2.2.1 hb_, own_below hS_.2.2.2.2 hb_⟩) (i := 13) rfl (by kernel_rfl) (fun _ _ _ h => h) (worldG (by rfl) (by intro w_ hS_; have q1 : w_.cell? ⟨g2, i2, none⟩ = some (.slice (some ⟨H, 0, none⟩) l.length c2) := (hS_.2.2.1.cellAt i2 (by omega)).trans HYS.out; go_simp; first | done | with_reducible rfl)) ?_
            try simp only [Act.put, List.getElem_toArray, List.getElem_cons_succ, List.getElem_cons_zero, List.setIfInBounds_toArray, List.set_cons_zero, List.set_cons_succ]
            refine wpAnyG_take (oi := _) (v := _) (fun _ _ hS_ hb_ => ⟨hS_.1.gr hb_, own_below hS_.2.1 hb_, own_below hS_.2.2.1 hb_, own_below hS_.2.2.2.1 hb_, own_below hS_.2.2.2.2 hb_⟩) (i := 14) rfl (by kernel_rfl) (fun _ _ _ h => h) (callG (by rfl) rfl Tryd.func23 (by kernel_rfl) (by kernel_rfl) (#[.slice (some ⟨G, 0, none⟩) l.length c1, .slice (some ⟨H, 0, none⟩) l.length c2]) (by simp [Act.eval]) (fun W_ hS_ => HSAME.out W_ hS_.2.2.2.1 hS_.2.2.2.2)) ?_
            try simp only [Act.put, List.getElem_toArray, List.getElem_cons_succ, List.getElem_cons_zero, List.setIfInBounds_toArray, List.set_cons_zero, List.set_cons_succ]
            refine wpAnyG_only (i := 15) (by kernel_rfl) (fun Wq hGq hSq => ?_)
            refine wpOp_run rfl (by rfl) (v := .bool true) (W2 := Wq) (by go_simp; first | done | with_reducible rfl) ⟨.inl ⟨rfl, by kernel_rfl⟩, wpAnyG_done (by kernel_rfl) (fun w6 h6 => ?_) _⟩
            try simp only [Act.put, List.getElem_toArray, List.getElem_cons_succ, List.getElem_cons_zero, List.setIfInBounds_toArray, List.set_cons_zero, List.set_cons_succ]
            have hb6 : Below (wr.drew).heap.size wr.drew w6 := hGq.trans h6
            clear hSq hGq h6
            have hbel6 : Below wr.heap.size wr w6 := ⟨hb6.os, hb6.tape, hb6.output, hb6.size, hb6.block⟩
            have HL6 := Lib.hid (HL.out.below hwB hbel6)
            have HB6 := Lib.hid (Nat.le_trans hwB hbel6.size)
            have HO6 := Lib.hid (own_below HO1.out hbel6)
            have HG6 := Lib.hid (own_below HOG.out hbel6)
            clear hb6 hbel6 kc2 kc3 kx ky HO1 HOG HOH HO2 HSAME HL
            have hwB : w.heap.size ≤ w6.heap.size := HB6.out
            go_wp2_with fail
            go_loopw [15] (fun v15 wz => ∃ (k : Nat) (l' : List Nat), v15 = .int .i64 k ∧ k ≤ l.length ∧ l'.length = l.length ∧ (∀ x ∈ l', x < 256) ∧ wz.ownsRow w.heap.size 5 1 (.slice (some ⟨G, 0, none⟩) l.length c1) l.length (bytesV l') ∧ Fr w6 wz (fun j => j = G)) (fun v15 _ => l.length - (intOf v15).toNat)
            case atStart => exact ⟨0, l, rfl, Nat.zero_le _, rfl, HLT.out, HG6.out, Fr.refl _ _⟩
            case round =>
              obtain ⟨k, l', rfl, hk, hll, hl2, hoz, hfz⟩ := hrel
              have HOZ := Lib.hid hoz
              have HFZ := Lib.hid hfz
              have HBZ := Lib.hid (show Blk wr gt 44 [pa, pb, .slice (some ⟨g1, 0, none⟩) As.length cp1, .slice (some ⟨g2, 0, none⟩) As.length cp2] from blk_fr HL6.out.1 hfz (fun e => hGgt e.symm))
              have HOV := Lib.hid (own_fr HO6.out hfz (fun j e q => hV1G (q ▸ e)))
              have kc2 : wr.cell? ⟨gt, 2, none⟩ = some (.slice (some ⟨g1, 0, none⟩) As.length cp1) := HBZ.out.cell 2
              have kx : wr.cell? ⟨g1, i2, none⟩ = some (.slice (some ⟨G, 0, none⟩) l.length c1) := (HOV.out.cellAt i2 (by omega)).trans HXS.out
              have hwz : w.heap.size ≤ wr.heap.size := Nat.le_trans hwB hfz.2.2.2.1
              clear hoz hfz
              by_cases hkl : k < l.length
              · have hkli : (k : Int) < (l.length : Int) := by omega
                obtain ⟨y, hy⟩ : ∃ y, wr.cell? ⟨G, k, none⟩ = some y := ⟨_, (HOZ.out.cellAt k (by omega)).trans (List.getElem?_eq_getElem (by simp [bytesV]; omega))⟩
                have hf := HOZ.out.frozenAt k
                have HST := Lib.hid (HOZ.out.stored k (.int .u8 7))
                go_wp2_with fail
                go_roundw
                case rel => exact ⟨k + 1, l'.set k 7, by go_num, by omega, by rw [List.length_set]; exact hll, set_lt hl2 k 7 (by omega), by have h7 := HST.out.1; rw [show (Value.int .u8 7) = .int .u8 ((7 : Nat) : Int) from rfl, bytesV_set] at h7; exact h7, HFZ.out.trans (Fr.grown HST.out.2 (fun j e _ => by injection e with e; exact e.symm)) (fun j _ e => e)⟩
                case measure => simp [intOf]; omega
              · obtain rfl : k = l.length := by omega
                have hwB : w.heap.size ≤ wr.heap.size := hwz
                go_upto_region 25 with (fail)
                refine wp_region_G (fun w_ => Blk w_ gt 44 [pa, pb, .slice (some ⟨g1, 0, none⟩) As.length cp1, .slice (some ⟨g2, 0, none⟩) As.length cp2] ∧ w_.ownsRow (gt + 1) 22 1 (.slice (some ⟨g1, 0, none⟩) As.length cp1) As.length xs) 15 (by kernel_rfl) ⟨HBZ.out.drew, own_heap HOV.out rfl⟩ ?_
                refine wpAnyG_take (oi := _) (v := _) (fun _ _ hS_ hb_ => ⟨hS_.1.gr hb_, own_below hS_.2 hb_⟩) (i := 0) rfl (by kernel_rfl) (fun _ _ _ h => h) (pureG (by rfl) (by intro w; go_simp; first | done | with_reducible rfl)) ?_
                try simp only [Act.put, List.getElem_toArray, List.getElem_cons_succ, List.getElem_cons_zero, List.setIfInBounds_toArray, List.set_cons_zero, List.set_cons_succ]
                refine wpAnyG_take (oi := _) (v := _) (fun _ _ hS_ hb_ => ⟨hS_.1.gr hb_, own_below hS_.2 hb_⟩) (i := 1) rfl (by kernel_rfl) (fun _ _ _ h => h) (pureG (by rfl) (by intro w; go_simp; first | done | with_reducible rfl)) ?_
                try simp only [Act.put, List.getElem_toArray, List.getElem_cons_succ, List.getElem_cons_zero, List.setIfInBounds_toArray, List.set_cons_zero, List.set_cons_succ]
                refine wpAnyG_take (oi := _) (v := _) (fun _ _ hS_ hb_ => ⟨hS_.1.gr hb_, own_below hS_.2 hb_⟩) (i := 2) rfl (by kernel_rfl) (fun _ _ _ h => h) (pureG (by rfl) (by intro w; go_simp; first | done | with_reducible rfl)) ?_
                try simp only [Act.put, List.getElem_toArray, List.getElem_cons_succ, List.getElem_cons_zero, List.setIfInBounds_toArray, List.set_cons_zero, List.set_cons_succ]
                refine wpAnyG_take (oi := _) (v := _) (fun _ _ hS_ hb_ => ⟨hS_.1.gr hb_, own_below hS_.2 hb_⟩) (i := 3) rfl (by kernel_rfl) (fun _ _ _ h => h) (worldG (by rfl) (by intro w_ hS_; have q1 : w_.cell? ⟨gt, 2, none⟩ = some (.slice (some ⟨g1, 0, none⟩) As.length cp1) := hS_.1.cell 2; go_simp; first | done | with_reducible rfl)) ?_
                try simp only [Act.put, List.getElem_toArray, List.getElem_cons_succ, List.getElem_cons_zero, List.setIfInBounds_toArray, List.set_cons_zero, List.set_cons_succ]
                refine wpAnyG_take (oi := _) (v := _) (fun _ _ hS_ hb_ => ⟨hS_.1.gr hb_, own_below hS_.2 hb_⟩) (i := 4) rfl (by kernel_rfl) (fun _ _ _ h => h) (pureG (by rfl) (by intro w; go_simp; first | done | with_reducible rfl)) ?_
                try simp only [Act.put, List.getElem_toArray, List.getElem_cons_succ, List.getElem_cons_zero, List.setIfInBounds_toArray, List.set_cons_zero, List.set_cons_succ]
                refine wpAnyG_take (oi := _) (v := _) (fun _ _ hS_ hb_ => ⟨hS_.1.gr hb_, own_below hS_.2 hb_⟩) (i := 5) rfl (by kernel_rfl) (fun _ _ _ h => h) (pureG (by rfl) (by intro w; go_simp; first | done | with_reducible rfl)) ?_
                try simp only [Act.put, List.getElem_toArray, List.getElem_cons_succ, List.getElem_cons_zero, List.setIfInBounds_toArray, List.set_cons_zero, List.set_cons_succ]
                refine wpAnyG_take (oi := _) (v := _) (fun _ _ hS_ hb_ => ⟨hS_.1.gr hb_, own_below hS_.2 hb_⟩) (i := 6) rfl (by kernel_rfl) (fun _ _ _ h => h) (pureG (by rfl) (by intro w; go_simp; first | done | with_reducible rfl)) ?_
                try simp only [Act.put, List.getElem_toArray, List.getElem_cons_succ, List.getElem_cons_zero, List.setIfInBounds_toArray, List.set_cons_zero, List.set_cons_succ]
                refine wpAnyG_take (oi := _) (v := _) (fun _ _ hS_ hb_ => ⟨hS_.1.gr hb_, own_below hS_.2 hb_⟩) (i := 7) rfl (by kernel_rfl) (fun _ _ _ h => h) (pureG (by rfl) (by intro w; go_simp; first | done | with_reducible rfl)) ?_
                try simp only [Act.put, List.getElem_toArray, List.getElem_cons_succ, List.getElem_cons_zero, List.setIfInBounds_toArray, List.set_cons_zero, List.set_cons_succ]
                refine wpAnyG_take (oi := _) (v := _) (fun _ _ hS_ hb_ => ⟨hS_.1.gr hb_, own_below hS_.2 hb_⟩) (i := 8) rfl (by kernel_rfl) (fun _ _ _ h => h) (worldG (by rfl) (by intro w_ hS_; have q1 : w_.cell? ⟨gt, 2, none⟩ = some (.slice (some ⟨g1, 0, none⟩) As.length cp1) := hS_.1.cell 2; go_simp; first | done | with_reducible rfl)) ?_
                try simp only [Act.put, List.getElem_toArray, List.getElem_cons_succ, List.getElem_cons_zero, List.setIfInBounds_toArray, List.set_cons_zero, List.set_cons_succ]
                refine wpAnyG_take (oi := _) (v := _) (fun _ _ hS_ hb_ => ⟨hS_.1.gr hb_, own_below hS_.2 hb_⟩) (i := 9) rfl (by kernel_rfl) (fun _ _ _ h => h) (pureG (by rfl) (by intro w; go_simp; first | done | with_reducible rfl)) ?_
                try simp only [Act.put, List.getElem_toArray, List.getElem_cons_succ, List.getElem_cons_zero, List.setIfInBounds_toArray, List.set_cons_zero, List.set_cons_succ]
                refine wpAnyG_take (oi := _) (v := _) (fun _ _ hS_ hb_ => ⟨hS_.1.gr hb_, own_below hS_.2 hb_⟩) (i := 10) rfl (by kernel_rfl) (fun _ _ _ h => h) (pureG (by rfl) (by intro w; go_simp; first | done | with_reducible rfl)) ?_
                try simp only [Act.put, List.getElem_toArray, List.getElem_cons_succ, List.getElem_cons_zero, List.setIfInBounds_toArray, List.set_cons_zero, List.set_cons_succ]
                refine wpAnyG_take (oi := _) (v := _) (fun _ _ hS_ hb_ => ⟨hS_.1.gr hb_, own_below hS_.2 hb_⟩) (i := 11) rfl (by kernel_rfl) (fun _ _ _ h => h) (worldG (by rfl) (by intro w_ hS_; have q1 : w_.cell? ⟨g1, i2, none⟩ = some (.slice (some ⟨G, 0, none⟩) l.length c1) := (hS_.2.cellAt i2 (by omega)).trans HXS.out; go_simp; first | done | with_reducible rfl)) ?_
                try simp only [Act.put, List.getElem_toArray, List.getElem_cons_succ, List.getElem_cons_zero, List.setIfInBounds_toArray, List.set_cons_zero, List.set_cons_succ]
                refine wpAnyG_only (i := 12) (by kernel_rfl) (fun Wa hGa hSa => ?_)
                refine wpOp_run rfl (by rfl) (v := .slice (some ⟨Wa.heap.size, 0, none⟩) 2 2) (W2 := Wa.alloc (.cells #[.int .u8 7, .int .u8 7] 5)) (by go_simp; first | done | with_reducible rfl) ⟨.inr ⟨hSa.1.alloc _, hSa.2.alloc _⟩, ?_⟩
                try simp only [Act.put, List.getElem_toArray, List.getElem_cons_succ, List.getElem_cons_zero, List.setIfInBounds_toArray, List.set_cons_zero, List.set_cons_succ]
                refine wpAnyG_only (i := 13) (by kernel_rfl) (fun Wb hGb hSb => ?_)
                have hoB : Wb.ownsRow w.heap.size 5 1 (.slice (some ⟨G, 0, none⟩) l.length c1) l.length (bytesV l') := own_below (own_below (own_below (show wr.drew.ownsRow w.heap.size 5 1 (.slice (some ⟨G, 0, none⟩) l.length c1) l.length (bytesV l') from own_heap HOZ.out rfl) hGa) (Gr.alloc Wa _)) hGb
                have hb7 := (bin_77 Wa).below hGb
                refine wpOp_append rfl (by rfl) (.tmp 144) (.tmp 145) rfl w.heap.size (.slice (some ⟨G, 0, none⟩) l.length c1) l.length l' rfl hoB Wa.heap.size 2 2 [7, 7] rfl hb7 (by omega) (Nat.le_trans hwB (Nat.le_trans hGa.size (Nat.le_trans (Gr.alloc Wa _).size hGb.size))) (fun v' Wc ho' hg' hat' => ?_)
                obtain ⟨G2, cp3, rfl, _⟩ := World.ownsRow.form ho' (by omega)
                refine ⟨.inr ⟨Blk.grown hSb.1 hg' (fun e => hGgt (by injection e with e; exact e.symm)), hSb.2.kept hg' (.inr hV1G)⟩, ?_⟩
                try simp only [Act.put, List.getElem_toArray, List.getElem_cons_succ, List.getElem_cons_zero, List.setIfInBounds_toArray, List.set_cons_zero, List.set_cons_succ]
                refine wpAnyG_only (i := 14) (by kernel_rfl) (fun Wd hGd hSd => ?_)
                refine wpOp_run rfl (by rfl) (v := .pointer (some ⟨g1, i2, none⟩)) (W2 := Wd) (by go_simp; first | done | with_reducible rfl) ⟨.inr hSd, ?_⟩
                try simp only [Act.put, List.getElem_toArray, List.getElem_cons_succ, List.getElem_cons_zero, List.setIfInBounds_toArray, List.set_cons_zero, List.set_cons_succ]
                refine wpAnyG_only (i := 15) (by kernel_rfl) (fun We hGe hSe => ?_)
                have k1 : We.cell? ⟨g1, i2, none⟩ = some (.slice (some ⟨G, 0, none⟩) l.length c1) := (hSe.2.cellAt i2 (by omega)).trans HXS.out
                have k2 := hSe.2.frozenAt i2
                refine wpOp_skip rfl (by rfl) (W2 := We.setCell ⟨g1, i2, none⟩ (.slice (some ⟨G2, 0, none⟩) (l.length + 2) cp3)) (by go_simp; first | done | with_reducible rfl) ⟨.inl ⟨rfl, by kernel_rfl⟩, wpAnyG_done (by kernel_rfl) (fun W3 h3 => ?_) _⟩
                try simp only [Act.put, List.getElem_toArray, List.getElem_cons_succ, List.getElem_cons_zero, List.setIfInBounds_toArray, List.set_cons_zero, List.set_cons_succ]
                have hstd := hSe.2.stored i2 (.slice (some ⟨G2, 0, none⟩) (l.length + 2) cp3)
                have hx1 : Fr wr Wb (fun j => j = G ∨ (Value.slice (some ⟨g1, 0, none⟩) As.length cp1).ownBlock = some j) := (((show Fr wr wr.drew _ from (Fr.refl _ _).drew).trans (Fr.below hGa) (fun j _ e => e)).trans (Fr.below (Gr.alloc Wa _)) (fun j _ e => e)).trans (Fr.below hGb) (fun j _ e => e)
                have hx2 : Fr Wb Wc (fun j => j = G ∨ (Value.slice (some ⟨g1, 0, none⟩) As.length cp1).ownBlock = some j) := Fr.grown hg' (fun j e _ => .inl (by injection e with e; exact e.symm))
                have hx3 : Fr Wc We (fun j => j = G ∨ (Value.slice (some ⟨g1, 0, none⟩) As.length cp1).ownBlock = some j) := (Fr.below hGd).trans (Fr.below hGe) (fun j _ e => e)
                have hx4 : Fr We W3 (fun j => j = G ∨ (Value.slice (some ⟨g1, 0, none⟩) As.length cp1).ownBlock = some j) := (Fr.grown hstd.2 (fun j e _ => .inr e)).trans (Fr.below h3) (fun j _ e => e)
                have hx5 := ((hx1.trans hx2 (fun j _ e => e)).trans hx3 (fun j _ e => e)).trans hx4 (fun j _ e => e)
                have HNEXT := Lib.hid (L2.next (i := i2) HL6.out HFAR.out HRW.out HB6.out ((HFZ.out.mono (fun j _ e => .inl e)).trans hx5 (fun j _ e => e)) (own_below hstd.1 h3) (fun j h1 h2 => by rw [List.getElem?_set_ne (by omega)]; exact HXJ.out j (by omega) h2))
                clear hx1 hx2 hx3 hx4 hx5 hstd k1 k2 hoB hb7 ho' hg' hat' hGa hGb hGd hGe hSa hSb hSd hSe h3
                go_wp2_with fail
                go_roundw
                case rel => exact ⟨i2 + 1, by go_num, by omega, HNEXT.out⟩
                case measure => simp [intOf]; omega
          · obtain rfl : i2 = As.length := by omega
            go_wp2_with fail
            go_ret
            exact ⟨rfl, HL.out.2.2.2.2⟩
/-- every kind -/
theorem plays_any (bits : Int) (P : Option Addr) (np cp : Nat) (os : List OpR) (w : World) (htab : Tabs w) (h2 : 2 ≤ w.heap.size) (hin : SIn w P np os) (hnp : np ≤ 1048576) (hsum : opsL os os.length ≤ 1048576) :
    Calls Tryd.prog 4 #[.int .i64 bits, .slice P np cp] w fun e w' => e = .returned (.bool true) ∧ Below w.heap.size w w' := by
  by_cases b1 : bits = 256
  · subst b1; exact plays_yes 1 (.inl rfl) P np cp os w htab h2 hin hnp hsum
  by_cases b2 : bits = 384
  · subst b2; exact plays_yes 2 (.inr (.inl rfl)) P np cp os w htab h2 hin hnp hsum
  by_cases b3 : bits = 512
  · subst b3; exact plays_yes 3 (.inr (.inr rfl)) P np cp os w htab h2 hin hnp hsum
  exact plays_no bits b1 b2 b3 P np cp w htab
end Go.Proofs.YtnikhnpigopihaaDoor
