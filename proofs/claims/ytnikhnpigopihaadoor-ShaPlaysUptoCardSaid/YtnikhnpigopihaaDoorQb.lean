/- For ShaPlays: steps 2 and 3 (func 20): an answer of both is kept. Condition: the tables; the two lists lie apart. -/
/- For ShaPlays: what the law's loop keeps, and that a step keeps it: plain. No condition. -/
/- For ShaPlays: step 1 (func 20): both take in the same bytes. Condition: the tables. -/
/- For ShaPlays: New of a wrong number of bits (both), Reset. Condition: the tables. -/
/- Regions whose calls only make memory: loads and calls are taken in one order of our own, whatever order is drawn; the world behind is known up to growth. No condition. -/
/- For ShaPlays: step 5 (func 20): both begin anew. Condition: the tables. -/
import Derived.Test.YtnikhnpigopihaaDoorQa
import Derived.Test.YtnikhnpigopihaaDoorSPm
import Derived.Test.YtnikhnpigopihaaDoorRefS
import Derived.Test.YtnikhnpigopihaaDoorSum
import Derived.Test.YtnikhnpigopihaaDoorMem
import Derived.BigCall
import Derived.Great.Walk
import Derived.OrdersHeld
import Derived.Deep.RegionHeld3
namespace Go.Proofs.YtnikhnpigopihaaDoor
open Go.RowKit
set_option linter.unusedVariables false
set_option linter.unusedSimpArgs false
/-- an answer made by a call: a new list -/
def AnsIs (w : World) (X : List Nat) (w' : World) (e : Ending) (w'' : World) : Prop := ∃ G c, e = .returned (.slice (some ⟨G, 0, none⟩) X.length c) ∧ BIn w'' (some ⟨G, 0, none⟩) X.length c X ∧ w''.ownsRow w.heap.size 5 1 (.slice (some ⟨G, 0, none⟩) X.length c) X.length (bytesV X) ∧ w'.heap.size ≤ G ∧ Below w'.heap.size w' w'' ∧ Below w.heap.size w w''
theorem AnsIs.of {w w' w'' : World} {X : List Nat} {e : Ending} (h : AppIs w'.heap.size X w' e w'') (hb : Below w.heap.size w w') (hX : ∀ x ∈ X, x < 256) (hn : X.length ≤ 300) (h0 : 0 < X.length) : AnsIs w X w' e w'' := by
  obtain ⟨v, h1, h2, h3⟩ := h
  obtain ⟨G, c, rfl, hG, _⟩ := World.ownsRow.form h2 h0
  obtain ⟨a, c2, he, hin, _⟩ := own_in h2 hX (by omega)
  simp only [Value.slice.injEq] at he
  obtain ⟨rfl, _, rfl⟩ := he
  exact ⟨G, c, h1, hin, own_low h2 hb.size, hG, h3, hb.trans (h3.mono hb.size)⟩
/-- what a step leaves that keeps an answer -/
def KeptIs (gt base N : Nat) (pa pb V1 V2 : Value) (xs ys : List Value) (X : List Nat) (w : World) (e : Ending) (w' : World) : Prop := ∃ (w3 : World) (G c1 H c2 : Nat), Below w.heap.size w w3 ∧ w3.ownsRow w.heap.size 5 1 (.slice (some ⟨G, 0, none⟩) X.length c1) X.length (bytesV X) ∧ w3.ownsRow w.heap.size 5 1 (.slice (some ⟨H, 0, none⟩) X.length c2) X.length (bytesV X) ∧ G ≠ H ∧ PutIs gt base N pa pb V1 V2 xs ys (.slice (some ⟨G, 0, none⟩) X.length c1) (.slice (some ⟨H, 0, none⟩) X.length c2) w3 e w'
theorem own_lt5 {w : World} {base n G c : Nat} {xs : List Value} (h : w.ownsRow base 5 1 (.slice (some ⟨G, 0, none⟩) n c) n xs) : base ≤ G ∧ G < w.heap.size := h.lt G rfl
theorem keptI {gt base N : Nat} {pa pb V1 V2 : Value} {xs ys : List Value} {X : List Nat} {w : World} {e : Ending} {w' : World} (w3 : World) (G c1 H c2 : Nat) (h1 : Below w.heap.size w w3) (h2 : w3.ownsRow w.heap.size 5 1 (.slice (some ⟨G, 0, none⟩) X.length c1) X.length (bytesV X)) (h3 : w3.ownsRow w.heap.size 5 1 (.slice (some ⟨H, 0, none⟩) X.length c2) X.length (bytesV X)) (h4 : G ≠ H)
    (h5 : PutIs gt base N pa pb V1 V2 xs ys (.slice (some ⟨G, 0, none⟩) X.length c1) (.slice (some ⟨H, 0, none⟩) X.length c2) w3 e w') : KeptIs gt base N pa pb V1 V2 xs ys X w e w' := ⟨w3, G, c1, H, c2, h1, h2, h3, h4, h5⟩
set_option maxRecDepth 100000 in
set_option maxHeartbeats 1600000 in
theorem step_2 (gt ga gb k n0 base N : Nat) (S L : List Nat) (V1 V2 : Value) (xs ys : List Value) (bits : Int) (a : Option Addr) (m c : Nat) (w : World) (hk : TwB w gt (.pointer (some ⟨ga, 0, none⟩)) (.pointer (some ⟨gb, 0, none⟩)) V1 V2) (h : TW w ga gb k n0 S L)
    (h1 : w.ownsRow base 22 1 V1 N xs) (h2 : w.ownsRow base 22 1 V2 N ys) (hne : V1.ownBlock = none ∨ V1.ownBlock ≠ V2.ownBlock) (hgb : gt < base) (hbw : base ≤ w.heap.size) (hN : N ≤ 1000000) (h47 : L.length + 300 ≤ 140737488351232) (htab : Tabs w) :
    Calls Tryd.prog 20 #[.pointer (some ⟨gt, 0, none⟩), .agg #[.int .i64 2, .int .i64 bits, .slice a m c]] w (KeptIs gt base N (.pointer (some ⟨ga, 0, none⟩)) (.pointer (some ⟨gb, 0, none⟩)) V1 V2 xs ys (digN k (n0 + L.length) S L) w) := by
  have hgt : gt < w.heap.size := Blk.lt hk
  have hb1 := (Below.refl w.heap.size w).alloc (Nat.le_refl _) (.cells #[.int .i64 2, .int .i64 bits, .slice a m c] 47)
  obtain ⟨XLT, XLN, XL0⟩ : (∀ x ∈ digN k (n0 + L.length) S L, x < 256) ∧ (digN k (n0 + L.length) S L).length ≤ 300 ∧ 0 < (digN k (n0 + L.length) S L).length := ⟨digN_lt _ _ _ _, by rw [digN_length k _ S L h.2.1.2.1 h.2.1.2.2.1]; have := dgB_le k; omega, by rw [digN_length k _ S L h.2.1.2.1 h.2.1.2.2.1]; unfold dgB; (repeat' split) <;> omega⟩
  have HS := Lib.hid (show ∀ w', Below w.heap.size w w' → Calls Tryd.prog 29 #[.pointer (some ⟨ga, 0, none⟩)] w' (AnsIs w (digN k (n0 + L.length) S L) w') from fun w' hb => (show Calls Tryd.prog 29 #[.pointer (some ⟨ga, 0, none⟩)] w' (AppIs w'.heap.size (digN k (n0 + L.length) S L) w') from by have := sum_any ga k _ _ _ w' (h.1.belowB hb h.1.lt) (htab.below hb); rw [digN_goes k _ S L (wW_pos k)] at this; exact this).mono fun e w'' ha => AnsIs.of ha hb XLT XLN XL0)
  have HD := Lib.hid (show ∀ w', Below w.heap.size w w' → Calls Tryd.prog 30 #[.pointer (some ⟨gb, 0, none⟩)] w' (AnsIs w (digN k (n0 + L.length) S L) w') from fun w' hb => (show Calls Tryd.prog 30 #[.pointer (some ⟨gb, 0, none⟩)] w' (AppIs w'.heap.size (digN k (n0 + L.length) S L) w') from by have := refSum_any gb (gb + 1) k n0 S L w' (h.2.1.below hb) h.2.2.2.1 h.2.2.2.2 (by omega); exact this).mono fun e w'' ha => AnsIs.of ha hb XLT XLN XL0)
  have HP := Lib.hid (show ∀ (w' : World) (G1 G2 : Nat) (c1 c2 : Nat), Below w.heap.size w w' → BIn w' (some ⟨G1, 0, none⟩) (digN k (n0 + L.length) S L).length c1 (digN k (n0 + L.length) S L) → BIn w' (some ⟨G2, 0, none⟩) (digN k (n0 + L.length) S L).length c2 (digN k (n0 + L.length) S L) → w.heap.size ≤ G1 → w.heap.size ≤ G2 → Calls Tryd.prog 37 #[.pointer (some ⟨gt, 0, none⟩), .slice (some ⟨G1, 0, none⟩) (digN k (n0 + L.length) S L).length c1, .slice (some ⟨G2, 0, none⟩) (digN k (n0 + L.length) S L).length c2] w' (PutIs gt base N (.pointer (some ⟨ga, 0, none⟩)) (.pointer (some ⟨gb, 0, none⟩)) V1 V2 xs ys (.slice (some ⟨G1, 0, none⟩) (digN k (n0 + L.length) S L).length c1) (.slice (some ⟨G2, 0, none⟩) (digN k (n0 + L.length) S L).length c2) w') from fun w' G1 G2 c1 c2 hb g1 g2 d1 d2 => by
    have far : ∀ (G : Nat), w.heap.size ≤ G → ∀ b : Addr, some ⟨G, 0, none⟩ = some b → 0 < (digN k (n0 + L.length) S L).length → b.block ≠ gt ∧ some b.block ≠ V1.ownBlock ∧ some b.block ≠ V2.ownBlock := fun G d b hA _ => by
      injection hA with hA; subst hA
      refine ⟨by show G ≠ gt; omega, fun e => ?_, fun e => ?_⟩
      · have := (own_lt h1 G e.symm).2; omega
      · have := (own_lt h2 G e.symm).2; omega
    exact put_any gt base N _ _ V1 V2 xs ys _ _ (digN k (n0 + L.length) S L).length c1 c2 (digN k (n0 + L.length) S L) w' (Blk.below hk hb hgt) (own_below h1 hb) (own_below h2 hb) hne hgb (Nat.le_trans hbw hb.size) hN g1 g2 (far G1 d1) (far G2 d2))
  have hk1 : Blk (w.alloc (.cells #[.int .i64 2, .int .i64 bits, .slice a m c] 47)) gt 44 [.pointer (some ⟨ga, 0, none⟩), .pointer (some ⟨gb, 0, none⟩), V1, V2] := Blk.below hk hb1 hgt
  have hq0 := hk1.cell 0
  have hq1 := hk1.cell 1
  rw [show ([.pointer (some ⟨ga, 0, none⟩), .pointer (some ⟨gb, 0, none⟩), V1, V2] : List Value)[0]? = some (.pointer (some ⟨ga, 0, none⟩)) from rfl] at hq0
  rw [show ([.pointer (some ⟨ga, 0, none⟩), .pointer (some ⟨gb, 0, none⟩), V1, V2] : List Value)[1]? = some (.pointer (some ⟨gb, 0, none⟩)) from rfl] at hq1
  have KC := Lib.hid (show ∀ w', Below w.heap.size w w' → w'.cell? ⟨gt, 0, none⟩ = some (.pointer (some ⟨ga, 0, none⟩)) ∧ w'.cell? ⟨gt, 1, none⟩ = some (.pointer (some ⟨gb, 0, none⟩)) from fun w' hb => ⟨(Blk.below hk hb hgt).cell 0, (Blk.below hk hb hgt).cell 1⟩)
  unfold AnsIs at HS HD
  generalize digN k (n0 + L.length) S L = X at *
  clear hk h h1 h2 htab XLT XLN XL0 hk1
  go_enter Tryd.func20, Tryd.ntmps20
  go_upto_region 13 with (fail)
  obtain ⟨W1, hW1⟩ : ∃ W1, w.alloc (.cells #[.int .i64 2, .int .i64 bits, .slice a m c] 47) = W1 := ⟨_, rfl⟩
  rw [hW1] at hq0 hq1 hb1
  try rw [hW1]
  clear hW1
  have hbD := hb1.drew
  go_region_with (first | (go_at_call 29; refine (HS.out _ (by first | exact hbB | exact hbD)).mono ?_; rintro e wA ⟨aA, cA, rfl, hA1, hA2, hA3, hAB, hbA⟩; obtain ⟨kA0, kA1⟩ := KC.out wA hbA) | (go_at_call 30; refine (HD.out _ (by first | exact hbA | exact hbD)).mono ?_; rintro e wB ⟨aB, cB, rfl, hB1, hB2, hB3, hBB, hbB⟩; obtain ⟨kB0, kB1⟩ := KC.out wB hbB) | (go_at_call 37; first | (refine (HP.out wB aA aB cA cB hbB (hA1.below hBB) hB1 (Nat.le_trans hbD.size hA3) (Nat.le_trans hbA.size hB3)).mono ?_; rintro e w9 ⟨rfl, h9⟩) | (refine (HP.out wA aA aB cA cB hbA hA1 (hB1.below hAB) (Nat.le_trans hbB.size hA3) (Nat.le_trans hbD.size hB3)).mono ?_; rintro e w9 ⟨rfl, h9⟩)))
  all_goals
    have H9 := Lib.hid h9
    clear h9 kA0 kA1 kB0 kB1
    go_wp2_with fail
    go_ret
    first | exact keptI wB aA cA aB cB hbB (own_below hA2 hBB) hB2 (by have := (own_lt5 hA2).2; omega) ⟨rfl, H9.out⟩ | exact keptI wA aA cA aB cB hbA hA2 (own_below hB2 hAB) (by have := (own_lt5 hB2).2; omega) ⟨rfl, H9.out⟩
set_option maxRecDepth 100000 in
set_option maxHeartbeats 1600000 in
theorem step_3 (gt ga gb k n0 base N : Nat) (S L : List Nat) (V1 V2 : Value) (xs ys : List Value) (bits : Int) (a : Option Addr) (m c : Nat) (w : World) (hk : TwB w gt (.pointer (some ⟨ga, 0, none⟩)) (.pointer (some ⟨gb, 0, none⟩)) V1 V2) (h : TW w ga gb k n0 S L)
    (h1 : w.ownsRow base 22 1 V1 N xs) (h2 : w.ownsRow base 22 1 V2 N ys) (hne : V1.ownBlock = none ∨ V1.ownBlock ≠ V2.ownBlock) (hgb : gt < base) (hbw : base ≤ w.heap.size) (hN : N ≤ 1000000) (h47 : L.length + 300 ≤ 140737488351232) (htab : Tabs w) :
    Calls Tryd.prog 20 #[.pointer (some ⟨gt, 0, none⟩), .agg #[.int .i64 3, .int .i64 bits, .slice a m c]] w (KeptIs gt base N (.pointer (some ⟨ga, 0, none⟩)) (.pointer (some ⟨gb, 0, none⟩)) V1 V2 xs ys (stateN k (n0 + L.length) (goes (wW k) S L).1 (goes (wW k) S L).2) w) := by
  have hgt : gt < w.heap.size := Blk.lt hk
  have hb1 := (Below.refl w.heap.size w).alloc (Nat.le_refl _) (.cells #[.int .i64 3, .int .i64 bits, .slice a m c] 47)
  obtain ⟨XLT, XLN, XL0⟩ : (∀ x ∈ stateN k (n0 + L.length) (goes (wW k) S L).1 (goes (wW k) S L).2, x < 256) ∧ (stateN k (n0 + L.length) (goes (wW k) S L).1 (goes (wW k) S L).2).length ≤ 300 ∧ 0 < (stateN k (n0 + L.length) (goes (wW k) S L).1 (goes (wW k) S L).2).length := ⟨state_lt h.1.1 (goes_bytes (wW_pos k) _ S L rfl h.2.1.2.2.2.1), by rw [state_len h.1.2.2.1, goes_tail (wW_pos k) _ S L rfl]; have q1 := mod_le k L.length; have q2 : wB k ≤ 8 := (by unfold wB; split <;> omega); omega, by rw [state_len h.1.2.2.1]; omega⟩
  have HS := Lib.hid (show ∀ w', Below w.heap.size w w' → Calls Tryd.prog 26 #[.pointer (some ⟨ga, 0, none⟩)] w' (AnsIs w (stateN k (n0 + L.length) (goes (wW k) S L).1 (goes (wW k) S L).2) w') from fun w' hb => (show Calls Tryd.prog 26 #[.pointer (some ⟨ga, 0, none⟩)] w' (AppIs w'.heap.size (stateN k (n0 + L.length) (goes (wW k) S L).1 (goes (wW k) S L).2) w') from state_any ga k _ _ _ w' (h.1.belowB hb h.1.lt)).mono fun e w'' ha => AnsIs.of ha hb XLT XLN XL0)
  have HD := Lib.hid (show ∀ w', Below w.heap.size w w' → Calls Tryd.prog 38 #[.pointer (some ⟨gb, 0, none⟩)] w' (AnsIs w (stateN k (n0 + L.length) (goes (wW k) S L).1 (goes (wW k) S L).2) w') from fun w' hb => (show Calls Tryd.prog 38 #[.pointer (some ⟨gb, 0, none⟩)] w' (AppIs w'.heap.size (stateN k (n0 + L.length) (goes (wW k) S L).1 (goes (wW k) S L).2) w') from refState_any gb (gb + 1) k n0 S L w' (h.2.1.below hb) h.2.2.2.2 (by omega)).mono fun e w'' ha => AnsIs.of ha hb XLT XLN XL0)
  have HP := Lib.hid (show ∀ (w' : World) (G1 G2 : Nat) (c1 c2 : Nat), Below w.heap.size w w' → BIn w' (some ⟨G1, 0, none⟩) (stateN k (n0 + L.length) (goes (wW k) S L).1 (goes (wW k) S L).2).length c1 (stateN k (n0 + L.length) (goes (wW k) S L).1 (goes (wW k) S L).2) → BIn w' (some ⟨G2, 0, none⟩) (stateN k (n0 + L.length) (goes (wW k) S L).1 (goes (wW k) S L).2).length c2 (stateN k (n0 + L.length) (goes (wW k) S L).1 (goes (wW k) S L).2) → w.heap.size ≤ G1 → w.heap.size ≤ G2 → Calls Tryd.prog 37 #[.pointer (some ⟨gt, 0, none⟩), .slice (some ⟨G1, 0, none⟩) (stateN k (n0 + L.length) (goes (wW k) S L).1 (goes (wW k) S L).2).length c1, .slice (some ⟨G2, 0, none⟩) (stateN k (n0 + L.length) (goes (wW k) S L).1 (goes (wW k) S L).2).length c2] w' (PutIs gt base N (.pointer (some ⟨ga, 0, none⟩)) (.pointer (some ⟨gb, 0, none⟩)) V1 V2 xs ys (.slice (some ⟨G1, 0, none⟩) (stateN k (n0 + L.length) (goes (wW k) S L).1 (goes (wW k) S L).2).length c1) (.slice (some ⟨G2, 0, none⟩) (stateN k (n0 + L.length) (goes (wW k) S L).1 (goes (wW k) S L).2).length c2) w') from fun w' G1 G2 c1 c2 hb g1 g2 d1 d2 => by
    have far : ∀ (G : Nat), w.heap.size ≤ G → ∀ b : Addr, some ⟨G, 0, none⟩ = some b → 0 < (stateN k (n0 + L.length) (goes (wW k) S L).1 (goes (wW k) S L).2).length → b.block ≠ gt ∧ some b.block ≠ V1.ownBlock ∧ some b.block ≠ V2.ownBlock := fun G d b hA _ => by
      injection hA with hA; subst hA
      refine ⟨by show G ≠ gt; omega, fun e => ?_, fun e => ?_⟩
      · have := (own_lt h1 G e.symm).2; omega
      · have := (own_lt h2 G e.symm).2; omega
    exact put_any gt base N _ _ V1 V2 xs ys _ _ (stateN k (n0 + L.length) (goes (wW k) S L).1 (goes (wW k) S L).2).length c1 c2 (stateN k (n0 + L.length) (goes (wW k) S L).1 (goes (wW k) S L).2) w' (Blk.below hk hb hgt) (own_below h1 hb) (own_below h2 hb) hne hgb (Nat.le_trans hbw hb.size) hN g1 g2 (far G1 d1) (far G2 d2))
  have hk1 : Blk (w.alloc (.cells #[.int .i64 3, .int .i64 bits, .slice a m c] 47)) gt 44 [.pointer (some ⟨ga, 0, none⟩), .pointer (some ⟨gb, 0, none⟩), V1, V2] := Blk.below hk hb1 hgt
  have hq0 := hk1.cell 0
  have hq1 := hk1.cell 1
  rw [show ([.pointer (some ⟨ga, 0, none⟩), .pointer (some ⟨gb, 0, none⟩), V1, V2] : List Value)[0]? = some (.pointer (some ⟨ga, 0, none⟩)) from rfl] at hq0
  rw [show ([.pointer (some ⟨ga, 0, none⟩), .pointer (some ⟨gb, 0, none⟩), V1, V2] : List Value)[1]? = some (.pointer (some ⟨gb, 0, none⟩)) from rfl] at hq1
  have KC := Lib.hid (show ∀ w', Below w.heap.size w w' → w'.cell? ⟨gt, 0, none⟩ = some (.pointer (some ⟨ga, 0, none⟩)) ∧ w'.cell? ⟨gt, 1, none⟩ = some (.pointer (some ⟨gb, 0, none⟩)) from fun w' hb => ⟨(Blk.below hk hb hgt).cell 0, (Blk.below hk hb hgt).cell 1⟩)
  unfold AnsIs at HS HD
  generalize stateN k (n0 + L.length) (goes (wW k) S L).1 (goes (wW k) S L).2 = X at *
  clear hk h h1 h2 htab XLT XLN XL0 hk1
  go_enter Tryd.func20, Tryd.ntmps20
  go_upto_region 15 with (fail)
  obtain ⟨W1, hW1⟩ : ∃ W1, w.alloc (.cells #[.int .i64 3, .int .i64 bits, .slice a m c] 47) = W1 := ⟨_, rfl⟩
  rw [hW1] at hq0 hq1 hb1
  try rw [hW1]
  clear hW1
  have hbD := hb1.drew
  go_region_with (first | (go_at_call 26; refine (HS.out _ (by first | exact hbB | exact hbD)).mono ?_; rintro e wA ⟨aA, cA, rfl, hA1, hA2, hA3, hAB, hbA⟩; obtain ⟨kA0, kA1⟩ := KC.out wA hbA) | (go_at_call 38; refine (HD.out _ (by first | exact hbA | exact hbD)).mono ?_; rintro e wB ⟨aB, cB, rfl, hB1, hB2, hB3, hBB, hbB⟩; obtain ⟨kB0, kB1⟩ := KC.out wB hbB) | (go_at_call 37; first | (refine (HP.out wB aA aB cA cB hbB (hA1.below hBB) hB1 (Nat.le_trans hbD.size hA3) (Nat.le_trans hbA.size hB3)).mono ?_; rintro e w9 ⟨rfl, h9⟩) | (refine (HP.out wA aA aB cA cB hbA hA1 (hB1.below hAB) (Nat.le_trans hbB.size hA3) (Nat.le_trans hbD.size hB3)).mono ?_; rintro e w9 ⟨rfl, h9⟩)))
  all_goals
    have H9 := Lib.hid h9
    clear h9 kA0 kA1 kB0 kB1
    go_wp2_with fail
    go_ret
    first | exact keptI wB aA cA aB cB hbB (own_below hA2 hBB) hB2 (by have := (own_lt5 hA2).2; omega) ⟨rfl, H9.out⟩ | exact keptI wA aA cA aB cB hbA hA2 (own_below hB2 hAB) (by have := (own_lt5 hB2).2; omega) ⟨rfl, H9.out⟩
end Go.Proofs.YtnikhnpigopihaaDoor
namespace Go.Proofs.YtnikhnpigopihaaDoor
open Go.RowKit
set_option linter.unusedVariables false
set_option linter.unusedSimpArgs false
/-- all old blocks outside F are as they were -/
def Fr (w w' : World) (F : Nat → Prop) : Prop := w'.os = w.os ∧ w'.tape = w.tape ∧ w'.output = w.output ∧ w.heap.size ≤ w'.heap.size ∧ ∀ j, j < w.heap.size → ¬ F j → w'.heap[j]? = w.heap[j]?
theorem Fr.refl (w : World) (F : Nat → Prop) : Fr w w F := ⟨rfl, rfl, rfl, Nat.le_refl _, fun _ _ _ => rfl⟩
theorem Fr.trans {a b c : World} {F G : Nat → Prop} (h : Fr a b F) (k : Fr b c G) (hG : ∀ j, j < a.heap.size → G j → F j) : Fr a c F :=
  ⟨k.1.trans h.1, k.2.1.trans h.2.1, k.2.2.1.trans h.2.2.1, Nat.le_trans h.2.2.2.1 k.2.2.2.1, fun j hj hF => (k.2.2.2.2 j (Nat.lt_of_lt_of_le hj h.2.2.2.1) (fun hg => hF (hG j hj hg))).trans (h.2.2.2.2 j hj hF)⟩
theorem Fr.mono {a b : World} {F G : Nat → Prop} (h : Fr a b F) (hG : ∀ j, j < a.heap.size → F j → G j) : Fr a b G := ⟨h.1, h.2.1, h.2.2.1, h.2.2.2.1, fun j hj hg => h.2.2.2.2 j hj (fun hf => hg (hG j hj hf))⟩
theorem Fr.grown {a b : World} {r : Option Nat} {F : Nat → Prop} (h : a.grownBy b r) (hr : ∀ j, r = some j → j < a.heap.size → F j) : Fr a b F :=
  ⟨h.os, h.tape, h.output, h.size, fun j hj hf => h.block j hj (fun e => hf (hr j e.symm hj))⟩
theorem Fr.below {a b : World} {F : Nat → Prop} (h : Below a.heap.size a b) : Fr a b F := ⟨h.os, h.tape, h.output, h.size, fun j hj _ => h.block j hj⟩
theorem Fr.fp3 {a b : World} {gt : Nat} {r1 r2 : Option Nat} {F : Nat → Prop} (h : Fp3 a b gt r1 r2) (h0 : F gt) (h1 : ∀ j, r1 = some j → F j) (h2 : ∀ j, r2 = some j → F j) : Fr a b F :=
  ⟨h.1, h.2.1, h.2.2.1, h.2.2.2.1, fun j hj hf => h.2.2.2.2 j hj (fun e => hf (e ▸ h0)) (fun e => hf (h1 j e.symm)) (fun e => hf (h2 j e.symm))⟩
theorem own_fr {w w' : World} {base e size n : Nat} {v : Value} {xs : List Value} {F : Nat → Prop} (h : w.ownsRow base e size v n xs) (hf : Fr w w' F) (hF : ∀ j, v.ownBlock = some j → ¬ F j) : w'.ownsRow base e size v n xs := by
  refine ⟨h.1, ?_⟩
  rcases h.2 with h2 | ⟨g, cap, cur, rfl, hbg, hg, rest⟩
  · exact .inl h2
  · exact .inr ⟨g, cap, cur, rfl, hbg, (hf.2.2.2.2 g (Array.getElem?_eq_some_iff.1 hg).1 (hF g rfl)).trans hg, rest⟩
theorem blk_fr {w w' : World} {g t : Nat} {cs : List Value} {F : Nat → Prop} (h : Blk w g t cs) (hf : Fr w w' F) (hF : ¬ F g) : Blk w' g t cs := h.of (hf.2.2.2.2 g h.lt hF)
/-- both hashes at the same place, the document's list by name -/
def TV (w : World) (ga gb k n0 : Nat) (S L : List Nat) (v : Value) : Prop :=
  HashAt w ga k (n0 + L.length) (goes (wW k) S L).1 (goes (wW k) S L).2 ∧ RefV w gb (gb + 1) k S n0 L v ∧ ga < gb ∧ n0 % (2 * wW k) = 0 ∧ n0 + L.length ≤ 2305843009213693951
theorem TV.tw {w : World} {ga gb k n0 : Nat} {S L : List Nat} {v : Value} (h : TV w ga gb k n0 S L v) : TW w ga gb k n0 S L := ⟨h.1, h.2.1.at, h.2.2.1, h.2.2.2.1, h.2.2.2.2⟩
theorem TW.v {w : World} {ga gb k n0 : Nat} {S L : List Nat} (h : TW w ga gb k n0 S L) : ∃ v, TV w ga gb k n0 S L v := by
  obtain ⟨v, hv⟩ := h.2.1.v
  exact ⟨v, h.1, hv, h.2.2.1, h.2.2.2.1, h.2.2.2.2⟩
theorem hash_fr {w w' : World} {g k n : Nat} {s t : List Nat} {F : Nat → Prop} (h : HashAt w g k n s t) (hf : Fr w w' F) (hF : ¬ F g) : HashAt w' g k n s t := by
  obtain ⟨h1, h2, h3, h4, h5, h6, r0, h7, h8, h9, h10⟩ := h
  exact ⟨h1, h2, h3, h4, h5, h6, r0, h7, h8, h9, blk_fr h10 hf hF⟩
theorem refv_fr {w w' : World} {g base k n : Nat} {s L : List Nat} {v : Value} {F : Nat → Prop} (h : RefV w g base k s n L v) (hf : Fr w w' F) (h0 : ¬ F g) (h1 : ∀ j, v.ownBlock = some j → ¬ F j) : RefV w' g base k s n L v := by
  obtain ⟨a1, a2, a3, a4, a5, a6, a7, a8⟩ := h
  exact ⟨a1, a2, a3, a4, a5, Nat.le_trans a6 hf.2.2.2.1, blk_fr a7 hf h0, own_fr a8 hf h1⟩
theorem TV.fr {w w' : World} {ga gb k n0 : Nat} {S L : List Nat} {v : Value} {F : Nat → Prop} (h : TV w ga gb k n0 S L v) (hf : Fr w w' F) (h1 : ¬ F ga) (h2 : ¬ F gb) (h3 : ∀ j, v.ownBlock = some j → ¬ F j) : TV w' ga gb k n0 S L v :=
  ⟨hash_fr h.1 hf h1, refv_fr h.2.1 hf h2 h3, h.2.2⟩
theorem TV.blk {w : World} {ga gb k n0 : Nat} {S L : List Nat} {v : Value} (h : TV w ga gb k n0 S L v) : (∃ cs, Blk w ga 72 cs) ∧ (∃ cs, Blk w gb 69 cs) ∧ w.ownsRow (gb + 1) 5 1 v L.length (bytesV L) := by
  obtain ⟨r, b⟩ := h.1.blk
  exact ⟨⟨_, b⟩, ⟨_, h.2.1.2.2.2.2.2.2.1⟩, h.2.1.2.2.2.2.2.2.2⟩
/-- the blocks that belong to the twin -/
def FF (gt ga gb : Nat) (v V1 V2 : Value) (j : Nat) : Prop := j = gt ∨ j = ga ∨ j = gb ∨ v.ownBlock = some j ∨ V1.ownBlock = some j ∨ V2.ownBlock = some j
/-- the twin -/
def ST (w : World) (gt ga gb k n0 : Nat) (S L : List Nat) (v V1 V2 : Value) (N : Nat) (xs ys : List Value) : Prop :=
  TwB w gt (.pointer (some ⟨ga, 0, none⟩)) (.pointer (some ⟨gb, 0, none⟩)) V1 V2 ∧ TV w ga gb k n0 S L v ∧ w.ownsRow (gt + 1) 22 1 V1 N xs ∧ w.ownsRow (gt + 1) 22 1 V2 N ys ∧ (V1.ownBlock = none ∨ V1.ownBlock ≠ V2.ownBlock)
/-- an answer that was kept, and what it was -/
structure An where
  G : Nat
  c1 : Nat
  H : Nat
  c2 : Nat
  l : List Nat
def An.x (r : An) : Value := .slice (some ⟨r.G, 0, none⟩) r.l.length r.c1
def An.y (r : An) : Value := .slice (some ⟨r.H, 0, none⟩) r.l.length r.c2
def AnAt (w : World) (base : Nat) (r : An) : Prop := w.ownsRow base 5 1 r.x r.l.length (bytesV r.l) ∧ w.ownsRow base 5 1 r.y r.l.length (bytesV r.l) ∧ (∀ x ∈ r.l, x < 256) ∧ r.l.length ≤ 300
theorem AnAt.lt {w : World} {base : Nat} {r : An} (h : AnAt w base r) : (base ≤ r.G ∧ r.G < w.heap.size) ∧ (base ≤ r.H ∧ r.H < w.heap.size) := ⟨h.1.lt r.G rfl, h.2.1.lt r.H rfl⟩
theorem AnAt.fr {w w' : World} {base : Nat} {r : An} {F : Nat → Prop} (h : AnAt w base r) (hf : Fr w w' F) (h1 : ¬ F r.G) (h2 : ¬ F r.H) : AnAt w' base r :=
  ⟨own_fr h.1 hf (fun j e => by injection e with e; subst e; exact h1), own_fr h.2.1 hf (fun j e => by injection e with e; subst e; exact h2), h.2.2⟩
theorem AnAt.low {w : World} {base b : Nat} {r : An} (h : AnAt w base r) (hb : b ≤ base) : AnAt w b r := ⟨own_low h.1 hb, own_low h.2.1 hb, h.2.2⟩
def blks (As : List An) : List Nat := As.flatMap fun r => [r.G, r.H]
/-- what a step leaves -/
def StepIs (gt ga gb : Nat) (L : List Nat) (v V1 V2 : Value) (As : List An) (m : Nat) (w : World) (e : Ending) (w' : World) : Prop := e = .returned (.bool true) ∧
  ∃ ga' gb' k' n0' S' L' v' V1' V2' As', ST w' gt ga' gb' k' n0' S' L' v' V1' V2' As'.length (As'.map An.x) (As'.map An.y) ∧ Fr w w' (FF gt ga gb v V1 V2) ∧ (∀ j, FF gt ga' gb' v' V1' V2' j → FF gt ga gb v V1 V2 j ∨ w.heap.size ≤ j) ∧
    (As' = As ∨ ∃ r, As' = As ++ [r] ∧ AnAt w' w.heap.size r ∧ r.G ≠ r.H ∧ ¬ FF gt ga' gb' v' V1' V2' r.G ∧ ¬ FF gt ga' gb' v' V1' V2' r.H) ∧ (L'.length ≤ L.length + m ∨ L'.length ≤ 127)
/-- what the law's loop keeps -/
def INV (w0 : World) (gt B M i : Nat) (wr : World) (ga gb k n0 : Nat) (S L : List Nat) (v V1 V2 : Value) (As : List An) : Prop :=
  ST wr gt ga gb k n0 S L v V1 V2 As.length (As.map An.x) (As.map An.y) ∧ (∀ j, FF gt ga gb v V1 V2 j → B ≤ j) ∧ Below B w0 wr ∧ B ≤ w0.heap.size ∧ (∀ r ∈ As, AnAt wr B r) ∧ (blks As).Nodup ∧ (∀ j ∈ blks As, ¬ FF gt ga gb v V1 V2 j) ∧ L.length ≤ 127 + M ∧ As.length ≤ i
theorem mem_blks {As : List An} {r : An} (h : r ∈ As) : r.G ∈ blks As ∧ r.H ∈ blks As :=
  ⟨List.mem_flatMap.2 ⟨r, h, by simp⟩, List.mem_flatMap.2 ⟨r, h, by simp⟩⟩
theorem blks_lt {w : World} {B : Nat} {As : List An} (h : ∀ r ∈ As, AnAt w B r) : ∀ j ∈ blks As, j < w.heap.size := by
  intro j hj
  obtain ⟨r, hr, hj⟩ := List.mem_flatMap.1 hj
  have := (h r hr).lt
  simp only [List.mem_cons, List.not_mem_nil, or_false] at hj
  rcases hj with rfl | rfl
  · exact this.1.2
  · exact this.2.2
theorem inv_step {w0 : World} {gt B M m i : Nat} {wr : World} {ga gb k n0 : Nat} {S L : List Nat} {v V1 V2 : Value} {As : List An} (h : INV w0 gt B M i wr ga gb k n0 S L v V1 V2 As) {e : Ending} {w' : World} (hs : StepIs gt ga gb L v V1 V2 As m wr e w') :
    e = .returned (.bool true) ∧ ∃ ga' gb' k' n0' S' L' v' V1' V2' As', INV w0 gt B (M + m) (i + 1) w' ga' gb' k' n0' S' L' v' V1' V2' As' := by
  obtain ⟨h1, h2, h3, h3', h4, h5, h6, h7, h8⟩ := h
  obtain ⟨he, ga', gb', k', n0', S', L', v', V1', V2', As', s1, s2, s3, s4, s5⟩ := hs
  have hB : B ≤ wr.heap.size := Nat.le_trans h3' h3.size
  have hbel : Below B w0 w' := ⟨s2.1.trans h3.os, s2.2.1.trans h3.tape, s2.2.2.1.trans h3.output, Nat.le_trans h3.size s2.2.2.2.1, fun j hj => (s2.2.2.2.2 j (by omega) (fun hF => by have := h2 j hF; omega)).trans (h3.block j hj)⟩
  have hlt := blks_lt h4
  have hFF : ∀ j, FF gt ga' gb' v' V1' V2' j → B ≤ j := fun j hj => (s3 j hj).elim (h2 j) (fun q => by omega)
  have hold : ∀ r ∈ As, AnAt w' B r := fun r hr => (h4 r hr).fr s2 (h6 _ (mem_blks hr).1) (h6 _ (mem_blks hr).2)
  have hno : ∀ j ∈ blks As, ¬ FF gt ga' gb' v' V1' V2' j := fun j hj hF => (s3 j hF).elim (h6 j hj) (fun q => by have := hlt j hj; omega)
  have hL : L'.length ≤ 127 + (M + m) := by omega
  refine ⟨he, ga', gb', k', n0', S', L', v', V1', V2', As', s1, hFF, hbel, h3', ?_⟩
  rcases s4 with rfl | ⟨r, rfl, a1, a2, a3, a4⟩
  · exact ⟨hold, h5, hno, hL, by omega⟩
  · have hr := a1.lt
    have hbl : blks (As ++ [r]) = blks As ++ [r.G, r.H] := by simp [blks]
    refine ⟨fun q hq => ?_, ?_, fun j hj => ?_, hL, by simp; omega⟩
    · rcases List.mem_append.1 hq with hq | hq
      · exact hold q hq
      · obtain rfl := List.mem_singleton.1 hq
        exact a1.low hB
    · rw [hbl, List.nodup_append]
      refine ⟨h5, by simp [a2], fun x hx y hy => ?_⟩
      have := hlt x hx
      simp only [List.mem_cons, List.not_mem_nil, or_false] at hy
      rcases hy with rfl | rfl <;> omega
    · rw [hbl] at hj
      rcases List.mem_append.1 hj with hj | hj
      · exact hno j hj
      · simp only [List.mem_cons, List.not_mem_nil, or_false] at hj
        rcases hj with rfl | rfl
        · exact a3
        · exact a4
theorem opt_own {v : Value} {P : Nat → Prop} (h : ∀ j, v.ownBlock = some j → ¬ P j) : ∀ j, v.ownBlock = some j → ¬ P j := h
/-- the twin's blocks are of different kinds -/
theorem ST.apart {w : World} {gt ga gb k n0 N : Nat} {S L : List Nat} {v V1 V2 : Value} {xs ys : List Value} (h : ST w gt ga gb k n0 S L v V1 V2 N xs ys) :
    ga ≠ gt ∧ gb ≠ gt ∧ ga ≠ gb ∧ v.ownBlock ≠ some gt ∧ v.ownBlock ≠ some ga ∧ v.ownBlock ≠ some gb ∧ V1.ownBlock ≠ some gt ∧ V1.ownBlock ≠ some ga ∧ V1.ownBlock ≠ some gb ∧ V2.ownBlock ≠ some gt ∧ V2.ownBlock ≠ some ga ∧ V2.ownBlock ≠ some gb ∧ (∀ j, v.ownBlock = some j → V1.ownBlock ≠ some j ∧ V2.ownBlock ≠ some j) := by
  obtain ⟨hk, ht, h1, h2, _⟩ := h
  obtain ⟨⟨ca, ba⟩, ⟨cb, bb⟩, bv⟩ := ht.blk
  have hk' : Blk w gt 44 _ := hk
  refine ⟨blk_ne ba hk' (by decide), blk_ne bb hk' (by decide), blk_ne ba bb (by decide), (own_ne_t bv hk' (by decide)).symm, (own_ne_t bv ba (by decide)).symm, (own_ne_t bv bb (by decide)).symm, (own_ne_t h1 hk' (by decide)).symm, (own_ne_t h1 ba (by decide)).symm, (own_ne_t h1 bb (by decide)).symm, (own_ne_t h2 hk' (by decide)).symm, (own_ne_t h2 ba (by decide)).symm, (own_ne_t h2 bb (by decide)).symm, fun j hj => ?_⟩
  rcases bv.2 with ⟨rfl, _⟩ | ⟨g, cap, cur, rfl, _, hg, _⟩
  · cases hj
  · obtain rfl : g = j := Option.some.inj hj
    constructor
    · intro e
      rcases h1.2 with ⟨rfl, _⟩ | ⟨g2, cap2, cur2, rfl, _, hg2, _⟩
      · cases e
      · obtain rfl : g2 = g := Option.some.inj e
        rw [hg] at hg2
        simp only [Option.some.injEq, Obj.cells.injEq] at hg2
        exact absurd hg2.2.1 (by decide)
    · intro e
      rcases h2.2 with ⟨rfl, _⟩ | ⟨g2, cap2, cur2, rfl, _, hg2, _⟩
      · cases e
      · obtain rfl : g2 = g := Option.some.inj e
        rw [hg] at hg2
        simp only [Option.some.injEq, Obj.cells.injEq] at hg2
        exact absurd hg2.2.1 (by decide)
theorem TOp.step {gt ga gb k n0 : Nat} {S L : List Nat} {v V1 V2 : Value} {As : List An} {w : World} {e : Ending} {w' : World} (m : Nat) (hst : ST w gt ga gb k n0 S L v V1 V2 As.length (As.map An.x) (As.map An.y)) (h : TOp gt (.pointer (some ⟨ga, 0, none⟩)) (.pointer (some ⟨gb, 0, none⟩)) V1 V2 w e w') : StepIs gt ga gb L v V1 V2 As m w e w' := by
  obtain ⟨p1, p2, p3, p4, p5, p6, p7, p8, p9, p10, p11, p12, p13⟩ := hst.apart
  obtain ⟨hk, ht, h1, h2, h3⟩ := hst
  obtain ⟨he, hg, hx⟩ := h
  have hf : Fr w w' (fun j => j = gt) := Fr.grown hg (fun j e _ => by injection e with e; exact e.symm)
  have hF : Fr w w' (FF gt ga gb v V1 V2) := hf.mono (fun j _ e => .inl e)
  have q1 := own_fr h1 hf (fun j e q => p7 (q ▸ e))
  have q2 := own_fr h2 hf (fun j e q => p10 (q ▸ e))
  refine ⟨he, ?_⟩
  rcases hx with hx | ⟨ga', gb', k', n0', S', T, hga, hx, htw, hT⟩
  · exact ⟨ga, gb, k, n0, S, L, v, V1, V2, As, ⟨hx, ht.fr hf p1 p2 (fun j e q => p4 (q ▸ e)), q1, q2, h3⟩, hF, fun j hj => .inl hj, .inl rfl, .inl (by omega)⟩
  · obtain ⟨v', hv'⟩ := htw.v
    refine ⟨ga', gb', k', n0', S', T, v', V1, V2, As, ⟨hx, hv', q1, q2, h3⟩, hF, fun j hj => ?_, .inl rfl, .inr hT⟩
    have hab := hv'.2.2.1
    rcases hj with rfl | rfl | rfl | hj | hj | hj
    · exact .inl (.inl rfl)
    · exact .inr hga
    · exact .inr (by omega)
    · have := (hv'.blk.2.2.lt j hj).1
      exact .inr (by omega)
    · exact .inl (.inr (.inr (.inr (.inr (.inl hj)))))
    · exact .inl (.inr (.inr (.inr (.inr (.inr hj)))))
theorem KeptIs.step {gt ga gb k n0 : Nat} {S L : List Nat} {v V1 V2 : Value} {As : List An} {X : List Nat} {w : World} {e : Ending} {w' : World} (m : Nat) (hst : ST w gt ga gb k n0 S L v V1 V2 As.length (As.map An.x) (As.map An.y)) (hX : ∀ x ∈ X, x < 256) (hX2 : X.length ≤ 300)
    (h : KeptIs gt (gt + 1) As.length (.pointer (some ⟨ga, 0, none⟩)) (.pointer (some ⟨gb, 0, none⟩)) V1 V2 (As.map An.x) (As.map An.y) X w e w') : StepIs gt ga gb L v V1 V2 As m w e w' := by
  obtain ⟨p1, p2, p3, p4, p5, p6, p7, p8, p9, p10, p11, p12, p13⟩ := hst.apart
  obtain ⟨hk, ht, h1, h2, h3⟩ := hst
  obtain ⟨w3, G, c1, H, c2, b3, o1, o2, hGH, he, V1', V2', k', r1, r2, hne, a1, a2, f3⟩ := h
  have hG := o1.lt G rfl
  have hH := o2.lt H rfl
  obtain ⟨⟨ca, ba⟩, ⟨cb, bb⟩, bv⟩ := ht.blk
  have lga := ba.lt
  have lgb := bb.lt
  have lgt : gt < w.heap.size := Blk.lt hk
  have lV1 : ∀ j, V1.ownBlock = some j → j < w.heap.size := fun j hj => (h1.lt j hj).2
  have lV2 : ∀ j, V2.ownBlock = some j → j < w.heap.size := fun j hj => (h2.lt j hj).2
  have lv : ∀ j, v.ownBlock = some j → j < w.heap.size := fun j hj => (bv.lt j hj).2
  let F : Nat → Prop := fun j => j = gt ∨ V1.ownBlock = some j ∨ V2.ownBlock = some j
  have hf3 : Fr w3 w' F := Fr.fp3 f3 (.inl rfl) (fun j e => .inr (.inl e)) (fun j e => .inr (.inr e))
  have hf : Fr w w' F := (Fr.below (F := F) b3).trans hf3 (fun j _ h => h)
  have hF : Fr w w' (FF gt ga gb v V1 V2) := hf.mono (fun j _ e => e.elim .inl (fun q => q.elim (fun q => .inr (.inr (.inr (.inr (.inl q))))) (fun q => .inr (.inr (.inr (.inr (.inr q)))))))
  have nG : ∀ j, w.heap.size ≤ j → ¬ F j := fun j hj q => by
    rcases q with q | q | q
    · omega
    · have := lV1 j q; omega
    · have := lV2 j q; omega
  have hV' : ∀ {V V' : Value}, OwnAt w3 V V' → ∀ j, V'.ownBlock = some j → V.ownBlock = some j ∨ w3.heap.size ≤ j := fun h j hj => by
    rcases h with h | ⟨x, h, hx⟩
    · exact .inl (h ▸ hj)
    · rw [h] at hj
      injection hj with hj
      exact .inr (hj ▸ hx)
  have hsz := b3.size
  refine ⟨he, ga, gb, k, n0, S, L, v, V1', V2', As ++ [⟨G, c1, H, c2, X⟩], ⟨k', ht.fr hf ?_ ?_ ?_, ?_, ?_, .inr hne⟩, hF, ?_, .inr ⟨⟨G, c1, H, c2, X⟩, rfl, ⟨own_fr o1 hf3 ?_, own_fr o2 hf3 ?_, hX, hX2⟩, hGH, ?_, ?_⟩, .inl (by omega)⟩
  · rintro (q | q | q)
    · exact p1 q
    · exact p8 q
    · exact p11 q
  · rintro (q | q | q)
    · exact p2 q
    · exact p9 q
    · exact p12 q
  · rintro j hj (q | q | q)
    · exact p4 (q ▸ hj)
    · exact (p13 j hj).1 q
    · exact (p13 j hj).2 q
  · simpa [An.x] using r1
  · simpa [An.y] using r2
  · intro j hj
    rcases hj with q | q | q | q | q | q
    · exact .inl (.inl q)
    · exact .inl (.inr (.inl q))
    · exact .inl (.inr (.inr (.inl q)))
    · exact .inl (.inr (.inr (.inr (.inl q))))
    · rcases hV' a1 j q with q | q
      · exact .inl (.inr (.inr (.inr (.inr (.inl q)))))
      · exact .inr (by omega)
    · rcases hV' a2 j q with q | q
      · exact .inl (.inr (.inr (.inr (.inr (.inr q)))))
      · exact .inr (by omega)
  · intro j e; injection e with e; subst e; exact nG _ hG.1
  · intro j e; injection e with e; subst e; exact nG _ hH.1
  · rintro (q | q | q | q | q | q)
    · change G = gt at q; omega
    · change G = ga at q; omega
    · change G = gb at q; omega
    · have := lv G q; omega
    · rcases hV' a1 G q with q | q
      · have := lV1 G q; omega
      · omega
    · rcases hV' a2 G q with q | q
      · have := lV2 G q; omega
      · omega
  · rintro (q | q | q | q | q | q)
    · change H = gt at q; omega
    · change H = ga at q; omega
    · change H = gb at q; omega
    · have := lv H q; omega
    · rcases hV' a1 H q with q | q
      · have := lV1 H q; omega
      · omega
    · rcases hV' a2 H q with q | q
      · have := lV2 H q; omega
      · omega
end Go.Proofs.YtnikhnpigopihaaDoor
namespace Go.Proofs.YtnikhnpigopihaaDoor
open Go.RowKit
set_option linter.unusedVariables false
set_option linter.unusedSimpArgs false
theorem Fr.drew {a b : World} {F : Nat → Prop} (h : Fr a b F) : Fr a b.drew F := ⟨h.1, h.2.1, h.2.2.1, h.2.2.2.1, h.2.2.2.2⟩
theorem Fr.drewN {a b : World} {F : Nat → Prop} (h : Fr a b F) (q : Nat) : Fr a (b.drewN q) F := ⟨h.1, h.2.1, h.2.2.1, h.2.2.2.1, h.2.2.2.2⟩
theorem bin_fr {w w' : World} {a : Option Addr} {n c : Nat} {l : List Nat} {F : Nat → Prop} (h : BIn w a n c l) (hf : Fr w w' F) (hF : ∀ b, a = some b → 0 < n → ¬ F b.block) : BIn w' a n c l := by
  obtain ⟨⟨q1, q2, q3, q4⟩, rest⟩ := h
  refine ⟨⟨q1, q2, q3, ?_⟩, rest⟩
  by_cases hm : n = 0
  · exact .inl hm
  · obtain ⟨b, off, rfl, hcell⟩ := q4.resolve_left hm
    refine .inr ⟨b, off, rfl, fun i hi => ?_⟩
    have h0 := hcell i hi
    rw [← h0]
    exact cell_heap (hf.2.2.2.2 b (World.block_lt_of_cell? w _ h0) (hF _ rfl (by omega)))
/-- what step 1 leaves -/
def St1Is (ga gb k n0 N' : Nat) (S L' s' t' : List Nat) (v : Value) (w : World) (e : Ending) (w' : World) : Prop := e = .returned (.bool true) ∧ ∃ v', Fr w w' (fun j => j = ga ∨ j = gb ∨ v.ownBlock = some j) ∧ HashAt w' ga k N' s' t' ∧ RefV w' gb (gb + 1) k S n0 L' v' ∧ (v'.ownBlock = v.ownBlock ∨ ∃ x, v'.ownBlock = some x ∧ w.heap.size ≤ x)
set_option maxRecDepth 100000 in
set_option maxHeartbeats 3200000 in
theorem step1_walk (gt ga gb k n0 N' : Nat) (S L' s' t' : List Nat) (v V1 V2 : Value) (bits E : Int) (okb : Bool) (hE : (E = 0 ∧ okb = true) ∨ (E = 22 ∧ okb = false)) (a : Option Addr) (m c : Nat) (l : List Nat) (w : World) (hb : BIn w a m c l) (hk : TwB w gt (.pointer (some ⟨ga, 0, none⟩)) (.pointer (some ⟨gb, 0, none⟩)) V1 V2)
    (hga : ga ≠ gt) (hgb : gb ≠ gt) (hab : ga ≠ gb) (hvt : v.ownBlock ≠ some gt) (hva : v.ownBlock ≠ some ga) (hvb : v.ownBlock ≠ some gb) (lga : ga < w.heap.size) (lgb : gb < w.heap.size) (lv : ∀ j, v.ownBlock = some j → j < w.heap.size) (hsep : ∀ b, a = some b → 0 < m → ¬ (b.block = ga ∨ b.block = gb ∨ v.ownBlock = some b.block)) (h47 : m ≤ 140737488351232)
    (HW : ∀ w' G cap, Below w.heap.size w w' → w.heap.size ≤ G → BIn w' (some ⟨G, 0, none⟩) m cap l → Calls Tryd.prog 27 #[.pointer (some ⟨ga, 0, none⟩), .slice (some ⟨G, 0, none⟩) m cap] w' (fun e w'' => e = .returned (.int .i64 E) ∧ HashAt w'' ga k N' s' t' ∧ w'.grownBy w'' (some ga)))
    (HR : ∀ w', Fr w w' (fun j => j = ga) → Calls Tryd.prog 28 #[.pointer (some ⟨gb, 0, none⟩), .slice a m c] w' (fun e w'' => e = .returned (.bool okb) ∧ ∃ v', RefV w'' gb (gb + 1) k S n0 L' v' ∧ OwnAt w' v v' ∧ Fp3 w' w'' gb v.ownBlock none)) :
    Calls Tryd.prog 20 #[.pointer (some ⟨gt, 0, none⟩), .agg #[.int .i64 1, .int .i64 bits, .slice a m c]] w (St1Is ga gb k n0 N' S L' s' t' v w) := by
  have hgt : gt < w.heap.size := Blk.lt hk
  have HLM := Lib.hid hb.1.1
  have HLB := Lib.hid hb.1.2.2.1
  obtain ⟨W1, hW1⟩ : ∃ W1, w.alloc (.cells #[.int .i64 1, .int .i64 bits, .slice a m c] 47) = W1 := ⟨_, rfl⟩
  have hb1 : Below w.heap.size w W1 := hW1 ▸ (Below.refl w.heap.size w).alloc (Nat.le_refl _) _
  have hs1 : W1.heap.size = w.heap.size + 1 := by rw [← hW1]; simp
  have hbox : Blk W1 w.heap.size 47 [.int .i64 1, .int .i64 bits, .slice a m c] := by rw [← hW1]; exact Blk.new w 47 _
  have hF1 : ∀ F, Fr w W1 F := fun F => Fr.below hb1
  have KC := Lib.hid (show ∀ w', Fr W1 w' (fun j => j = ga ∨ j = gb ∨ v.ownBlock = some j) → w'.cell? ⟨gt, 0, none⟩ = some (.pointer (some ⟨ga, 0, none⟩)) ∧ w'.cell? ⟨gt, 1, none⟩ = some (.pointer (some ⟨gb, 0, none⟩)) ∧ w'.cell? ⟨w.heap.size, 2, none⟩ = some (.slice a m c) from fun w' hf => by
    have h1 : Blk w' gt 44 _ := blk_fr (Blk.below hk hb1 hgt) hf (by rintro (q | q | q); exact hga q.symm; exact hgb q.symm; exact hvt q)
    have h2 := blk_fr hbox hf (by rintro (q | q | q); omega; omega; have := lv _ q; omega)
    exact ⟨h1.cell 0, h1.cell 1, h2.cell 2⟩)
  have hc1 : W1.cell? ⟨w.heap.size, 2, none⟩ = some (.slice a m c) := (KC.out W1 (Fr.refl _ _)).2.2
  have hc0 : W1.cell? ⟨w.heap.size, 0, none⟩ = some (.int .i64 1) := hbox.cell 0
  have HB1 := Lib.hid (hb.below hb1)
  have HO := Lib.hid (own_any a m c l W1 HB1.out h47)
  have HB := Lib.hid hb
  have HF1 := Lib.hid hF1
  have HSEP := Lib.hid hsep
  have HWH := Lib.hid HW
  have HRH := Lib.hid HR
  have HE := Lib.hid hE
  have HBEL := Lib.hid hb1
  have HLV := Lib.hid lv
  clear hb hk hb1 hbox hF1 hsep HW HR hE lv
  unfold St1Is
  go_enter Tryd.func20, Tryd.ntmps20
  go_upto_region 3 with (fail)
  try rw [hW1]
  clear hW1
  go_wp2_with fail
  refine HO.out.mono ?_
  rintro e w2 ⟨G, cap, rfl, ho2, hb2⟩
  rw [HLM.out] at ho2 ⊢
  have hG := ho2.lt G rfl
  have HO2 := Lib.hid ho2
  have HF2 := Lib.hid (show Fr W1 w2 (fun j => j = ga ∨ j = gb ∨ v.ownBlock = some j) from Fr.below hb2)
  have hbe2 : Below w.heap.size w w2 := HBEL.out.trans (hb2.mono HBEL.out.size)
  have HA2 := Lib.hid (show Fr w w2 (fun j => j = ga) from Fr.below hbe2)
  have HW2 := Lib.hid (HWH.out w2 G cap hbe2 (by omega) (ownM_in ho2 HLB.out HLM.out (by omega)))
  obtain ⟨kc0, kc1, kc2⟩ := KC.out w2 HF2.out
  clear ho2 hb2 hbe2 HWH HO
  go_wp2_with fail
  refine HW2.out.mono ?_
  rintro e w3 ⟨rfl, hh3, hg3⟩
  have hf3 : Fr w2 w3 (fun j => j = ga) := Fr.grown hg3 (fun j e _ => by injection e with e; exact e.symm)
  have hsz3 : w2.heap.size ≤ w3.heap.size := hg3.size
  have HF3 := Lib.hid (HF2.out.trans hf3 (fun j _ e => .inl e))
  have HA3 := Lib.hid (HA2.out.trans hf3 (fun j _ e => e))
  have HO3 := Lib.hid (own_fr HO2.out hf3 (fun j e q => by injection e with e; subst e; change G = ga at q; omega))
  have HH3 := Lib.hid hh3
  clear hh3 hg3 hf3 HW2 HA2 HO2 HF2 kc0 kc1 kc2
  obtain ⟨kc0, kc1, kc2⟩ := KC.out w3 HF3.out
  go_wp2_with fail
  go_region_with (go_at_call 28; refine (HRH.out _ (by first | exact HA3.out.drew | exact HA3.out.drewN _)).mono ?_; rintro e w4 ⟨rfl, v', hr4, hat4, hf4⟩)
  all_goals
    have hf4' : Fr w3 w4 (fun j => j = gb ∨ v.ownBlock = some j) := (show Fr w3 w3.drew (fun j => j = gb ∨ v.ownBlock = some j) from (Fr.refl _ _).drew).trans (Fr.fp3 hf4 (.inl rfl) (fun j e => .inr e) (fun j e => by cases e)) (fun j _ e => e)
    have hsz4 : w3.heap.size ≤ w4.heap.size := hf4'.2.2.2.1
    have hnG : ¬ (G = gb ∨ v.ownBlock = some G) := by
      rintro (q | q)
      · omega
      · have := HLV.out G q; omega
    have HAT := Lib.hid (show v'.ownBlock = v.ownBlock ∨ ∃ x, v'.ownBlock = some x ∧ w3.heap.size ≤ x from hat4)
    have HF4 := Lib.hid (HF3.out.trans hf4' (fun j _ e => .inr e))
    have HO4 := Lib.hid (own_fr HO3.out hf4' (fun j e q => by injection e with e; subst e; exact hnG q))
    have HH4 := Lib.hid (hash_fr HH3.out hf4' (by rintro (q | q); exact hab q; exact hva q))
    have HR4 := Lib.hid hr4
    clear hr4 hat4 hf4 hf4' HA3 HO3 HH3 HF3 HRH kc0 kc1 kc2
    obtain ⟨kc0, kc1, kc2⟩ := KC.out w4 HF4.out
    have hFw4 : Fr w w4 (fun j => j = ga ∨ j = gb ∨ v.ownBlock = some j) := (HF1.out _).trans HF4.out (fun j _ e => e)
    have HST := Lib.hid (still_any W1.heap.size a m c G cap l w4 (bin_fr HB.out hFw4 HSEP.out) (by omega) HO4.out)
    clear hFw4
    go_wp2_with fail
    refine HST.out.mono ?_
    rintro e w5 ⟨rfl, hb5⟩
    obtain ⟨cs0, hcs0, hcl0⟩ := own_blk (own_below HO4.out hb5) (by omega)
    have HCS := Lib.hid (show Blk w5 G 5 cs0 ∧ m ≤ cs0.length from ⟨hcs0, by omega⟩)
    have hf5 : Fr w4 w5 (fun j => j = G) := Fr.below hb5
    have hsz5 : w4.heap.size ≤ w5.heap.size := hb5.size
    have HF5 := Lib.hid hf5
    clear hcs0 hcl0 hb5 hf5 HST kc0 kc1 kc2
    go_wp2_with fail
    go_loopw [9] (fun u wr => ∃ i : Nat, i ≤ m ∧ u = .int .i64 i ∧ (∃ cs, Blk wr G 5 cs ∧ m ≤ cs.length) ∧ Fr w4 wr (fun j => j = G)) (fun u _ => m - (intOf u).toNat)
    case atStart => exact ⟨0, by omega, rfl, ⟨cs0, HCS.out.1, HCS.out.2⟩, HF5.out⟩
    case round =>
      obtain ⟨i, hi, rfl, ⟨cs, hcs, hcl⟩, hgr⟩ := hrel
      by_cases him : i < m
      · have hii : (i : Int) < (m : Int) := by omega
        obtain ⟨y, hc⟩ : ∃ y, wr.cell? ⟨G, i, none⟩ = some y := ⟨_, (hcs.cell i).trans (List.getElem?_eq_getElem (by omega))⟩
        have hf := hcs.free i
        have HK2 := Lib.hid (hcs.set i (.int .u8 98))
        have HG2 := Lib.hid (hgr.trans (Fr.grown (F := fun j => j = G) (grown_setCell wr ⟨G, i, none⟩ (.int .u8 98)) (fun j e _ => by injection e with e; exact e.symm)) (fun j _ e => e))
        have HCL := Lib.hid (show m ≤ (cs.set i (.int .u8 98)).length by rw [List.length_set]; exact hcl)
        clear hcs hcl hgr
        go_wp2_with fail
        go_roundw
        case rel => exact ⟨i + 1, by omega, by go_num, ⟨_, HK2.out, HCL.out⟩, HG2.out⟩
        case measure => simp [intOf]; omega
      · obtain rfl : i = m := by omega
        have HGR := Lib.hid hgr
        clear hcs hcl hgr
        have hFIN : ∃ v', Fr w wr (fun j => j = ga ∨ j = gb ∨ v.ownBlock = some j) ∧ HashAt wr ga k N' s' t' ∧ RefV wr gb (gb + 1) k S n0 L' v' ∧ (v'.ownBlock = v.ownBlock ∨ ∃ x, v'.ownBlock = some x ∧ w.heap.size ≤ x) := by
          refine ⟨v', ((HF1.out _).trans HF4.out (fun j _ e => e)).trans HGR.out (fun j hj e => by subst e; omega), hash_fr HH4.out HGR.out (by omega), refv_fr HR4.out HGR.out (by omega) (fun j hj e => ?_), HAT.out.imp id (fun ⟨x, e, hx⟩ => ⟨x, e, by omega⟩)⟩
          subst e
          rcases HAT.out with q | ⟨x, q, hx⟩
          · exact hnG (.inr (q ▸ hj))
          · rw [q] at hj
            injection hj with hj
            omega
        have HFIN := Lib.hid hFIN
        clear hFIN
        rcases HE.out with ⟨rfl, rfl⟩ | ⟨rfl, rfl⟩
        · go_wp2_with fail
          go_ret
          obtain ⟨v9, q1, q2, q3, q4⟩ := HFIN.out
          exact ⟨rfl, q1, q2, v9, q3, q4⟩
        · go_wp2_with fail
          go_ret
          obtain ⟨v9, q1, q2, q3, q4⟩ := HFIN.out
          exact ⟨rfl, q1, q2, v9, q3, q4⟩
theorem St1Is.step {gt ga gb k n0 N' : Nat} {S L L' s' t' : List Nat} {v V1 V2 : Value} {As : List An} {m : Nat} {w : World} {e : Ending} {w' : World} (hst : ST w gt ga gb k n0 S L v V1 V2 As.length (As.map An.x) (As.map An.y))
    (hN : N' = n0 + L'.length) (h1 : s' = (goes (wW k) S L').1) (h2 : t' = (goes (wW k) S L').2) (h61 : n0 + L'.length ≤ 2305843009213693951) (hL : L'.length ≤ L.length + m) (h : St1Is ga gb k n0 N' S L' s' t' v w e w') : StepIs gt ga gb L v V1 V2 As m w e w' := by
  obtain ⟨p1, p2, p3, p4, p5, p6, p7, p8, p9, p10, p11, p12, p13⟩ := hst.apart
  obtain ⟨hk, ht, r1, r2, hne⟩ := hst
  obtain ⟨he, v', hf, hh, hr, hat⟩ := h
  subst hN h1 h2
  have hlv : ∀ j, v.ownBlock = some j → j < w.heap.size := fun j hj => (ht.blk.2.2.lt j hj).2
  refine ⟨he, ga, gb, k, n0, S, L', v', V1, V2, As, ⟨blk_fr hk hf ?_, ⟨hh, hr, ht.2.2.1, ht.2.2.2.1, h61⟩, own_fr r1 hf ?_, own_fr r2 hf ?_, hne⟩, hf.mono ?_, ?_, .inl rfl, .inl hL⟩
  · rintro (q | q | q)
    · exact p1 q.symm
    · exact p2 q.symm
    · exact p4 q
  · rintro j hj (q | q | q)
    · exact p8 (q ▸ hj)
    · exact p9 (q ▸ hj)
    · exact (p13 j q).1 hj
  · rintro j hj (q | q | q)
    · exact p11 (q ▸ hj)
    · exact p12 (q ▸ hj)
    · exact (p13 j q).2 hj
  · rintro j _ (q | q | q)
    · exact .inr (.inl q)
    · exact .inr (.inr (.inl q))
    · exact .inr (.inr (.inr (.inl q)))
  · rintro j (q | q | q | q | q | q)
    · exact .inl (.inl q)
    · exact .inl (.inr (.inl q))
    · exact .inl (.inr (.inr (.inl q)))
    · rcases hat with h | ⟨x, h, hx⟩
      · exact .inl (.inr (.inr (.inr (.inl (h ▸ q)))))
      · rw [h] at q
        injection q with q
        exact .inr (q ▸ hx)
    · exact .inl (.inr (.inr (.inr (.inr (.inl q)))))
    · exact .inl (.inr (.inr (.inr (.inr (.inr q)))))
theorem step_1 (gt ga gb k n0 : Nat) (S L : List Nat) (v V1 V2 : Value) (As : List An) (bits : Int) (a : Option Addr) (m c : Nat) (l : List Nat) (w : World) (hst : ST w gt ga gb k n0 S L v V1 V2 As.length (As.map An.x) (As.map An.y)) (hb : BIn w a m c l) (hsep : ∀ b, a = some b → 0 < m → ¬ FF gt ga gb v V1 V2 b.block) (htab : Tabs w) (hL : L.length ≤ 10000000) (hm : m ≤ 10000000) :
    Calls Tryd.prog 20 #[.pointer (some ⟨gt, 0, none⟩), .agg #[.int .i64 1, .int .i64 bits, .slice a m c]] w (StepIs gt ga gb L v V1 V2 As m w) := by
  obtain ⟨p1, p2, p3, p4, p5, p6, p7, p8, p9, p10, p11, p12, p13⟩ := hst.apart
  have ht := hst.2.1
  obtain ⟨⟨ca, ba⟩, ⟨cb, bb⟩, bv⟩ := ht.blk
  have lga := ba.lt
  have hlm := hb.1.1
  have hs : ∀ b, a = some b → 0 < m → ¬ (b.block = ga ∨ b.block = gb ∨ v.ownBlock = some b.block) := fun b e h0 q => hsep b e h0 (by
    rcases q with q | q | q
    · exact .inr (.inl q)
    · exact .inr (.inr (.inl q))
    · exact .inr (.inr (.inr (.inl q))))
  have hs2 : ∀ b, a = some b → 0 < m → ¬ (b.block = ga) := fun b e h0 q => hs b e h0 (.inl q)
  have hga' : ∀ (G : Nat), w.heap.size ≤ G → ∀ b : Addr, some (⟨G, 0, none⟩ : Addr) = some b → 0 < m → b.block ≠ ga := fun G hG b e _ => by
    injection e with e; subst e; show G ≠ ga; omega
  by_cases hfit : n0 + L.length + m ≤ 2305843009213693951
  · refine (step1_walk gt ga gb k n0 (n0 + L.length + m) S (L ++ l) _ _ v V1 V2 bits 0 true (.inl ⟨rfl, rfl⟩) a m c l w hb hst.1 p1 p2 p3 p4 p5 p6 lga bb.lt (fun j hj => (bv.lt j hj).2) hs (by omega)
      (fun w' G cap hb' hG hin => (write_any ga k (n0 + L.length) _ _ l _ m cap w' (ht.1.belowB hb' lga) hin (hga' G hG) (htab.below hb') hfit).mono fun e w'' h => h)
      (fun w' hf => (refWrite_v gb (gb + 1) k n0 S L v a m c l w' (refv_fr ht.2.1 hf (fun q => p3 q.symm) (fun j hj q => p5 (q ▸ hj))) (bin_fr hb hf hs2) (by omega) (by omega) (by omega)).mono fun e w'' h => h)).mono fun e w' h => ?_
    refine St1Is.step hst (by rw [List.length_append]; omega) ?_ ?_ (by rw [List.length_append]; omega) (by rw [List.length_append]; omega) h
    · rw [goes_append (wW_pos k) L.length S L l rfl]
    · rw [goes_append (wW_pos k) L.length S L l rfl]
  · refine (step1_walk gt ga gb k n0 (n0 + L.length) S L _ _ v V1 V2 bits 22 false (.inr ⟨rfl, rfl⟩) a m c l w hb hst.1 p1 p2 p3 p4 p5 p6 lga bb.lt (fun j hj => (bv.lt j hj).2) hs (by omega)
      (fun w' G cap hb' hG hin => (write_long ga k (n0 + L.length) _ _ l _ m cap w' (ht.1.belowB hb' lga) ht.2.2.2.2 (by omega) (by omega)).mono fun e w'' h => ⟨h.1, h.2 ▸ ht.1.belowB hb' lga, h.2 ▸ grown_refl _ _⟩)
      (fun w' hf => (refWrite_long gb (gb + 1) k n0 S L a m c w' (refv_fr ht.2.1 hf (fun q => p3 q.symm) (fun j hj q => p5 (q ▸ hj))).at (by omega) (by omega) ht.2.2.2.2 (by omega)).mono fun e w'' h => by
        obtain ⟨h1, q, rfl⟩ := h
        have hr := refv_fr ht.2.1 hf (fun q => p3 q.symm) (fun j hj q => p5 (q ▸ hj))
        exact ⟨h1, v, refv_fr hr ((Fr.refl w' (fun _ => False)).drewN q) (fun h => h) (fun _ _ h => h), .inl rfl, (Fp3.refl w' gb _ _).step (grown_drewN (grown_refl w' none) q) (.inl rfl)⟩)).mono fun e w' h => ?_
    exact St1Is.step hst rfl rfl rfl ht.2.2.2.2 (by omega) h
end Go.Proofs.YtnikhnpigopihaaDoor
namespace Go.Proofs.YtnikhnpigopihaaDoor
open Go.RowKit
set_option linter.unusedVariables false
set_option linter.unusedSimpArgs false
theorem new_no (bits : Int) (h1 : bits ≠ 256) (h2 : bits ≠ 384) (h3 : bits ≠ 512) (w : World) : Calls Tryd.prog 18 #[.int .i64 bits] w fun e w' => e = .returned (.tuple #[.pointer none, .int .i64 21]) ∧ w = w' := by
  have e1 : (bits == 256) = false := beq_eq_false_iff_ne.2 h1
  have e2 : (bits == 384) = false := beq_eq_false_iff_ne.2 h2
  have e3 : (bits == 512) = false := beq_eq_false_iff_ne.2 h3
  go_enter Tryd.func18, Tryd.ntmps18
  go_wp2_with fail
  go_ret2
  exact ⟨rfl, rfl⟩
theorem refNew_no (bits : Int) (h1 : bits ≠ 256) (h2 : bits ≠ 384) (h3 : bits ≠ 512) (w : World) : Calls Tryd.prog 19 #[.int .i64 bits] w fun e w' => e = .returned (.tuple #[.pointer none, .bool false]) ∧ w = w' := by
  have e1 : (bits == 256) = false := beq_eq_false_iff_ne.2 h1
  have e2 : (bits == 384) = false := beq_eq_false_iff_ne.2 h2
  have e3 : (bits == 512) = false := beq_eq_false_iff_ne.2 h3
  go_enter Tryd.func19, Tryd.ntmps19
  go_wp2_with fail
  go_ret2
  exact ⟨rfl, rfl⟩
set_option maxRecDepth 100000 in
set_option maxHeartbeats 800000 in
theorem reset_any (g k n : Nat) (s t : List Nat) (w : World) (h : HashAt w g k n s t) (htab : Tabs w) :
    Calls Tryd.prog 33 #[.pointer (some ⟨g, 0, none⟩)] w fun e w' => e = .returned (.tuple #[]) ∧ HashAt w' g k 0 (firstN k) [] ∧ w.grownBy w' (some g) := by
  obtain ⟨hk, hn, hs, hx, ht, hg, r, hr, hr2, hrt, blk⟩ := h
  have hkc := hash_kind blk
  have HB := Lib.hid (fun (w' : World) (h : Below w.heap.size w w') => begin_any k hk w' (htab.below h))
  have BLK := Lib.hid blk
  have HS := Lib.hid hs
  have HR := Lib.hid hr
  have HK := Lib.hid hk
  have HF := Lib.hid (firstN_length k)
  have HZ := Lib.hid (show (zeros 128).length = 128 by simp [zeros])
  have hgl := blk.lt
  have HNEW := Lib.hid (fun (w' : World) (h : Blk w' g 72 (hashV k 0 (firstN k) (zeros 128))) => hash_new hk hg h)
  clear hk hn hs hx ht hr hr2 hrt blk htab
  generalize firstN k = f at *
  generalize zeros 128 = z at *
  go_enter Tryd.func33, Tryd.ntmps33
  go_wp2_with fail
  refine (HB.out _ (Below.refl _ _)).mono ?_
  rintro e w1 ⟨g1, rfl, hg1, hblk1, hb1⟩
  have B1 := Lib.hid hblk1
  have B0 := Lib.hid (BLK.out.below' hb1)
  have HB1 := Lib.hid hb1
  clear hblk1 hb1
  go_wp2_with (first | (refine wpList_load_row rfl 72 (.tmp 10) rfl g1 rfl 72 (hashV k 0 f z).toArray (0, 0) _ B1.out Tryd.underlying72 rfl (by rw [info72s, hash_size HF.out HZ.out]) ?_) | (refine wpList_store_row rfl 72 (.tmp 12) (.tmp 11) rfl g (hashV k 0 f z).toArray rfl rfl 72 (hashV k n s r).toArray B0.out (by rw [info72s, hash_size HF.out HZ.out]) (by rw [hash_size HS.out HR.out, hash_size HF.out HZ.out]) (hash_one _ _ _ _) ?_))
  go_end0
  refine ⟨rfl, HNEW.out _ (B0.out.setRow _), grown_trans (grown_below HB1.out _) (grown_setRow _ _ _)⟩
end Go.Proofs.YtnikhnpigopihaaDoor
namespace Go.Proofs.YtnikhnpigopihaaDoor
open Go.RowKit
set_option linter.unusedVariables false
/-- w' is w and blocks behind -/
def Gr (w w' : World) : Prop := Below w.heap.size w w'
theorem Gr.refl (w : World) : Gr w w := Below.refl _ _
theorem Gr.trans {a b c : World} (h : Gr a b) (k : Gr b c) : Gr a c := Below.trans h (Below.mono k h.size)
theorem Gr.drew (w : World) : Gr w w.drew := Below.drew (Below.refl _ _)
theorem Gr.alloc (w : World) (o : Obj) : Gr w (w.alloc o) := (Below.refl _ _).alloc (Nat.le_refl _) _
theorem Gr.store {w W W2 : World} {g : Nat} (h : Gr w W) (k : W.grownBy W2 (some g)) (hg : w.heap.size ≤ g) : Gr w W2 :=
  ⟨k.os.trans h.os, k.tape.trans h.tape, k.output.trans h.output, Nat.le_trans h.size k.size, fun i hi => (k.block i (Nat.lt_of_lt_of_le hi h.size) (fun e => by injection e with e; omega)).trans (h.block i hi)⟩
theorem Blk.gr {w w' : World} {g : Nat} {t : TypeId} {cs : List Value} (h : Blk w g t cs) (hb : Gr w w') : Blk w' g t cs := h.below' hb
section
variable {P : Program} {ops : Array Oper} {Q : Exit → Act → World → Prop} {md : Region.Mode} {S : World → Prop}

/-- in state a, in every world that meets S, the operation leaves v, and at most makes memory -/
def YieldsG (P : Program) (ops : Array Oper) (S : World → Prop) (o : Oper) (v : Value) (a : Act) : Prop :=
  (Region.wanted o (yielded ops a.tmps) = true ∧ ∀ w, S w → ((execOp a.eval o).run P w = .ok (.value v) w ∨ ∃ f args, (execOp a.eval o).run P w = .ok (.enter f args) w ∧ Calls P f args w (fun e w' => e = .returned v ∧ Below w.heap.size w w'))) ∨
  (Region.wanted o (yielded ops a.tmps) = false ∧ v = undef)
theorem YieldsIf.toG {o : Oper} {v : Value} {a : Act} (h : YieldsIf P ops S o v a) : YieldsG P ops S o v a :=
  h.imp (fun ⟨hw, hv⟩ => ⟨hw, fun w hS => .inl (hv w hS)⟩) id
theorem YieldsG.of_same {o : Oper} {v : Value} {a a' : Act} (hy : YieldsG P ops S o v a) (he : execOp a'.eval o = execOp a.eval o)
    (hw : Region.wanted o (yielded ops a'.tmps) = Region.wanted o (yielded ops a.tmps)) : YieldsG P ops S o v a' := by
  unfold YieldsG at *
  rw [he, hw]
  exact hy
theorem YieldsG.wpOp {i : Nat} {o : Oper} {v : Value} {a : Act} (hi : ops[i]? = some o) (hy : YieldsG P ops S o v a)
    {K : Act → World → Prop} {w : World} (hS : S w) (h : ∀ w', Gr w w' → K (a.put o.dst v) w') : wpOp P ops Q i K a w := by
  unfold Go.wpOp
  simp only [hi]
  rcases hy with ⟨hw, hv⟩ | ⟨hw, rfl⟩
  · simp only [hw, if_true]
    refine .inl ?_
    unfold Oper.wp
    rcases hv w hS with hv | ⟨f, args, hv, hc⟩
    · rw [hv]; exact h w (Gr.refl w)
    · rw [hv]
      refine Calls.mono hc fun e w' he => ?_
      obtain ⟨rfl, hb⟩ := he
      exact h w' hb
  · simp only [hw, Bool.false_eq_true, if_false]; exact h w (Gr.refl w)
theorem wpOp_putG {j : Nat} {oi oj : Oper} {v : Value} (hj : ops[j]? = some oj) (hap : oi.apart ops oj = true)
    (hsi : ∀ cs b, oi.op ≠ .select cs b) (hsj : ∀ cs b, oj.op ≠ .select cs b)
    (hQ : ∀ c a w, Q (.panic c) (a.put oi.dst v) w → Q (.panic c) a w) {K : Act → World → Prop} {a : Act} {w : World}
    (hy : YieldsG P ops S oi v a) (h : wpOp P ops Q j K (a.put oi.dst v) w) :
    wpOp P ops Q j (fun a' w' => YieldsG P ops S oi v a' ∧ K (a'.put oi.dst v) w') a w := by
  obtain ⟨h1, h2, h3⟩ := Oper.apart_spec hap
  have keep : ∀ (a : Act), YieldsG P ops S oi v a → ∀ u, YieldsG P ops S oi v (a.put oj.dst u) := fun a hy u =>
    hy.of_same (execOp_put oi hsi a oj.dst u h3) (wanted_put oi a oj.dst u h3)
  have keepD : ∀ d, YieldsG P ops S oi v { a with defers := d :: a.defers } := fun d => hy.of_same rfl rfl
  unfold wpOp at *
  simp only [hj] at *
  rw [wanted_put oj a oi.dst v h1] at h
  split
  · rename_i hw
    simp only [hw, if_true] at h
    rcases h with h | ⟨hasks, hlets⟩
    case inr => exact .inr ⟨by unfold Oper.asks at *; rw [execOp_put oj hsj a oi.dst v h1] at hasks; exact hasks, hlets⟩
    refine .inl ?_
    unfold Oper.wp at *
    rw [execOp_put oj hsj a oi.dst v h1] at h
    generalize (execOp a.eval oj).run P w = r at *
    cases r with
    | ok n w' =>
      cases n <;> simp only [Oper.upon] at h ⊢
      case value u => exact ⟨keep a hy u, by rw [← Act.put_comm a v u h2]; exact h⟩
      case skip => exact ⟨keep a hy _, by rw [← Act.put_comm a v undef h2]; exact h⟩
      case defer d =>
        refine ⟨keep _ (keepD d) _, ?_⟩
        rw [← Act.put_comm _ v undef h2, ← Act.put_defers]
        exact h
      case enter f args =>
        refine Calls.mono h fun e w'' he => ?_
        cases e with
        | returned u => exact ⟨keep a hy u, by rw [← Act.put_comm a v u h2]; exact he⟩
        | panicked c => exact hQ _ _ _ he
        | outgrown => exact he
      case row row args => exact Rows.mono h fun u w'' he => ⟨keep a hy u, by rw [← Act.put_comm a v u h2]; exact he⟩
    | halt x w' =>
      cases x <;> simp only [Oper.upon] at h ⊢
      case panic u => exact hQ _ _ _ h
  · rename_i hw
    simp only [hw] at h
    exact ⟨keep a hy _, by rw [← Act.put_comm a v undef h2]; exact h⟩

/-- whatever order is picked from here on, and whatever blocks are made in between; behind operation L (the last one) S need not hold -/
def wpAnyG (P : Program) (md : Region.Mode) (ops : Array Oper) (Q : Exit → Act → World → Prop) (S : World → Prop) (L : Nat) : Nat → Array Bool → Act → World → Prop
  | 0, listed, a, w => ∀ w1, Gr w w1 → Region.ready md ops listed = [] ∧ Q .normal a w1
  | fuel + 1, listed, a, w => ∀ w1, Gr w w1 →
    (Region.ready md ops listed = [] → Q .normal a w1) ∧
    (S w1 → ∀ i ∈ Region.ready md ops listed, wpOp P ops Q i (fun a' w' => ((i = L ∧ Region.ready md ops (listed.setIfInBounds i true) = []) ∨ S w') ∧ wpAnyG P md ops Q S L fuel (listed.setIfInBounds i true) a' w') a w1)
variable {L : Nat}
theorem wpAnyG.grow : ∀ {fuel : Nat} {listed : Array Bool} {a : Act} {w w1 : World}, wpAnyG P md ops Q S L fuel listed a w → Gr w w1 → wpAnyG P md ops Q S L fuel listed a w1
  | 0, _, _, _, _, h, hg => fun w2 h2 => h w2 (hg.trans h2)
  | _ + 1, _, _, _, _, h, hg => fun w2 h2 => h w2 (hg.trans h2)
theorem wpAny_of_G : ∀ (fuel : Nat) (listed : Array Bool) (a : Act) (w : World), (Region.ready md ops listed = [] ∨ S w) → wpAnyG P md ops Q S L fuel listed a w → wpAny P md ops Q fuel listed a w
  | 0, _, _, w, _, h => h w (Gr.refl w)
  | fuel + 1, listed, a, w, hS, h => ⟨(h w (Gr.refl w)).1, fun i hi => wpOp_mono (fun a' w' h' => wpAny_of_G fuel _ a' w' (h'.1.imp And.right id) h'.2)
      ((h w (Gr.refl w)).2 (hS.elim (fun h0 => by rw [h0] at hi; cases hi) id) i hi)⟩
/-- operation L, if there is one, waits for operation i -/
def waitsB (md : Region.Mode) (ops : Array Oper) (L i : Nat) : Bool := i != L && ((ops[L]?).map fun o => o.after.any fun e => Region.binds md e && e.on == i).getD true

/-- an operation that yields, and that may come up now, is taken first -/
theorem wpAnyG_first {i : Nat} {oi : Oper} {v : Value} (hi : ops[i]? = some oi) (hsel : ∀ (j : Nat) (o : Oper) cs b, ops[j]? = some o → o.op ≠ .select cs b)
    (hQ : ∀ c a w, Q (.panic c) (a.put oi.dst v) w → Q (.panic c) a w) (hSg : ∀ w w', S w → Gr w w' → S w') (hL : waitsB md ops L i = true) :
    ∀ (fuel : Nat) (listed : Array Bool) (a : Act) (w : World),
      (∀ j oj, ops[j]? = some oj → j ≠ i → listed.getD j true = false → (∀ e ∈ oj.after, Region.binds md e = true → e.on ≠ i) → oi.apart ops oj = true) →
      i ∈ Region.ready md ops listed → YieldsG P ops S oi v a →
      wpAnyG P md ops Q S L fuel (listed.setIfInBounds i true) (a.put oi.dst v) w → wpAnyG P md ops Q S L (fuel + 1) listed a w := by
  intro fuel
  induction fuel with
  | zero =>
    intro listed a w _ hr hy H w1 hg
    refine ⟨fun h => (by rw [h] at hr; cases hr), fun hS j hj => ?_⟩
    by_cases hji : j = i
    · subst hji; exact hy.wpOp hi hS (fun w' hw' => ⟨.inr (hSg _ _ hS hw'), (H.grow hg).grow hw'⟩)
    · have := ready_mono hj hji
      rw [(H w1 hg).1] at this
      cases this
  | succ fuel ih =>
    intro listed a w hfree hr hy H w1 hg
    refine ⟨fun h => (by rw [h] at hr; cases hr), fun hS j hj => ?_⟩
    by_cases hji : j = i
    · subst hji; exact hy.wpOp hi hS (fun w' hw' => ⟨.inr (hSg _ _ hS hw'), (H.grow hg).grow hw'⟩)
    · have h1 := (H w1 hg).2 hS j (ready_mono hj hji)
      obtain ⟨hjun, oj, hoj, hall⟩ := mem_ready.1 hj
      have hnot : ∀ e ∈ oj.after, Region.binds md e = true → e.on ≠ i := fun e he hb heq => by
        have h1 := hall e he hb
        have h0 := (mem_ready.1 hr).1
        rw [heq] at h1
        rcases Nat.lt_or_ge i listed.size with h' | h'
        · simp [h'] at h0 h1; rw [h0] at h1; cases h1
        · simp [Array.getElem?_eq_none h'] at h1
      have hjL : j ≠ L := fun e => by
        subst e
        unfold waitsB at hL
        rw [hoj] at hL
        simp only [Option.map_some, Option.getD_some, Bool.and_eq_true, Array.any_eq_true] at hL
        obtain ⟨_, k, hk, hb, he⟩ := hL
        exact hnot _ (Array.getElem_mem hk) hb (by simpa using he)
      have h2 := wpOp_putG hoj (hfree j oj hoj hji hjun hnot) (fun cs b => hsel i oi cs b hi) (fun cs b => hsel j oj cs b hoj) hQ hy h1
      have hfree' : ∀ k ok, ops[k]? = some ok → k ≠ i → (listed.setIfInBounds j true).getD k true = false →
          (∀ e ∈ ok.after, Region.binds md e = true → e.on ≠ i) → oi.apart ops ok = true := fun k ok hk hki hun hno => by
        refine hfree k ok hk hki ?_ hno
        by_cases hjk : j = k
        · subst hjk; exact hjun
        · rw [getD_set_ne true hjk] at hun; exact hun
      refine wpOp_mono (fun a' w' h3 => ⟨.inr (h3.2.1.elim (fun h => absurd h.1 hjL) id), ih (listed.setIfInBounds j true) a' w' hfree' (ready_mono hr (Ne.symm hji)) h3.1 ?_⟩) h2
      rw [Array.setIfInBounds_comm _ _ hji]
      exact h3.2.2

/-! ### The moves of a walk -/
/-- what yields is taken first -/
theorem wpAnyG_take {i : Nat} {oi : Oper} {v : Value} {fuel : Nat} {listed : Array Bool} {a : Act} {w : World} (hSg : ∀ w w', S w → Gr w w' → S w') (hi : ops[i]? = some oi)
    (hs : (Region.noSelect ops && Region.free md ops listed i && (Region.ready md ops listed).contains i && waitsB md ops L i) = true)
    (hQ : ∀ c a w, Q (.panic c) (a.put oi.dst v) w → Q (.panic c) a w) (hy : YieldsG P ops S oi v a)
    (h : wpAnyG P md ops Q S L fuel (listed.setIfInBounds i true) (a.put oi.dst v) w) : wpAnyG P md ops Q S L (fuel + 1) listed a w := by
  simp only [Bool.and_eq_true] at hs
  exact wpAnyG_first hi (Region.noSelect_spec hs.1.1.1) hQ hSg hs.2 fuel listed a w (Region.free_spec hi hs.1.1.2) (by simpa using hs.1.2) hy h
/-- all have come up -/
theorem wpAnyG_done {listed : Array Bool} {a : Act} {w : World} (hr : Region.ready md ops listed = []) (h : ∀ W, Gr w W → Q .normal a W) :
    ∀ fuel, wpAnyG P md ops Q S L fuel listed a w
  | 0 => fun W hW => ⟨hr, h W hW⟩
  | _ + 1 => fun W hW => ⟨fun _ => h W hW, fun _ => by rw [hr]; simp⟩
/-- only one operation may come up -/
theorem wpAnyG_only {i : Nat} {fuel : Nat} {listed : Array Bool} {a : Act} {w : World} (hr : Region.ready md ops listed = [i])
    (h : ∀ W, Gr w W → S W → wpOp P ops Q i (fun a' w' => ((i = L ∧ Region.ready md ops (listed.setIfInBounds i true) = []) ∨ S w') ∧ wpAnyG P md ops Q S L fuel (listed.setIfInBounds i true) a' w') a W) : wpAnyG P md ops Q S L (fuel + 1) listed a w := by
  intro w1 hg
  refine ⟨fun h0 => (by rw [h0] at hr; cases hr), fun hS j hj => ?_⟩
  rw [hr] at hj
  obtain rfl : j = i := by simpa using hj
  exact h w1 hg hS
theorem wpOp_run {i : Nat} {oi : Oper} {v : Value} {a : Act} {W W2 : World} {K : Act → World → Prop} (hi : ops[i]? = some oi) (hw : Region.wanted oi (yielded ops a.tmps) = true) (hrun : (execOp a.eval oi).run P W = .ok (.value v) W2) (h : K (a.put oi.dst v) W2) : wpOp P ops Q i K a W := by
  unfold Go.wpOp
  simp only [hi, hw, if_true]
  refine .inl ?_
  unfold Oper.wp
  rw [hrun]
  exact h
theorem wpOp_skip {i : Nat} {oi : Oper} {a : Act} {W W2 : World} {K : Act → World → Prop} (hi : ops[i]? = some oi) (hw : Region.wanted oi (yielded ops a.tmps) = true) (hrun : (execOp a.eval oi).run P W = .ok .skip W2) (h : K (a.put oi.dst undef) W2) : wpOp P ops Q i K a W := by
  unfold Go.wpOp
  simp only [hi, hw, if_true]
  refine .inl ?_
  unfold Oper.wp
  rw [hrun]
  exact h
/-- the beginning: a region that draws its order -/
theorem wp_region_G {id : Nat} {a : Act} {w : World} (S : World → Prop) (L : Nat) (hm : P.follows .mixedOrders = true) (hS : S w.drew)
    (h : wpAnyG P .any ops Q S L ops.size (Array.replicate ops.size false) a w.drew) : (Code.region id ops true).wp P Q a w :=
  wp_region_any hm (wpAny_of_G _ _ _ _ (.inr hS) h)
end
section
variable {P : Program} {ops : Array Oper} {S : World → Prop}
theorem run_call_in {f : FuncId} {fn : Func} (hf : P.funcs[f]? = some fn) (hname : (fn.name == "runtime.NumGoroutine") = false) (hb : fn.body.isSome = true) (args : Array Value) (w : World) :
    (callFunc f args).run P w = .ok (.enter f args) w := by
  obtain ⟨c, hc⟩ := Option.isSome_iff_exists.1 hb
  unfold callFunc
  simp [hf, hc]
  intro h
  simp [h] at hname
/-- a call whose contract only makes memory -/
theorem callG {o : Oper} {v : Value} {a : Act} (hw : Region.wanted o (yielded ops a.tmps) = true) {f : FuncId} {fn : Func} {xs : Array Operand} {ats : Array TypeId} (ho : o.op = .call { callee := .value (.func f), args := xs, argTypes := ats })
    (hf : P.funcs[f]? = some fn) (hname : (fn.name == "runtime.NumGoroutine") = false) (hb : fn.body.isSome = true) (args : Array Value) (ha : #[] ++ xs.map a.eval ++ #[] = args)
    (hc : ∀ w, S w → Calls P f args w (fun e w' => e = .returned v ∧ Below w.heap.size w w')) : YieldsG P ops S o v a :=
  .inl ⟨hw, fun w hS => .inr ⟨f, args, by
    obtain ⟨dst, op, type, pos, after, guard⟩ := o
    subst ho
    rw [execOp_call_go, ha]
    exact run_call_in hf hname hb args w, hc w hS⟩⟩
theorem loadG {op : Oper} {a : Act} (hw : Region.wanted op (yielded ops a.tmps) = true) (ty : TypeId) (x : Operand) (ho : op.op = .load ty x)
    (b o : Nat) (hx : a.eval x = .pointer (some ⟨b, o, none⟩)) (cs : List Value) (d : TypeDesc) (hS : ∀ w, S w → w.rangeAt b o cs)
    (hu : P.underlying ty = some d) (hd : d.isRow = true) (hi : (P.info? ty).map (·.size) = some cs.length) : YieldsG P ops S op (.agg cs.toArray) a :=
  YieldsIf.toG (yieldsIf_load_mid hw ty x ho b o hx cs d hS hu hd hi)
theorem pureG {o : Oper} {v : Value} {a : Act} (hw : Region.wanted o (yielded ops a.tmps) = true) (hrun : ∀ w, (execOp a.eval o).run P w = .ok (.value v) w) : YieldsG P ops S o v a :=
  .inl ⟨hw, fun w _ => .inl (hrun w)⟩
theorem skipG {o : Oper} {a : Act} (hw : Region.wanted o (yielded ops a.tmps) = false) : YieldsG P ops S o undef a := .inr ⟨hw, rfl⟩
theorem buildG {o : Oper} {a : Act} (hw : Region.wanted o (yielded ops a.tmps) = true) (t : TypeId) (parts : Array (Nat × Operand)) (ho : o.op = .build t parts)
    (cells : Array Value) {L : List (Nat × Value)} (hc : P.built t L = some cells) (hL : (parts.map fun (i, x) => (i, a.eval x)).toList = L) : YieldsG P ops S o (.agg cells) a :=
  pureG hw (fun w => by
    unfold execOp
    simp only [ho]
    have := run_build (P := P) w t (parts.map fun (i, x) => (i, a.eval x)) cells (by rw [hL]; exact hc)
    simp [this])
end
section
variable {P : Program} {ops : Array Oper} {Q : Exit → Act → World → Prop} {md : Region.Mode} {S : World → Prop}
theorem worldG {o : Oper} {v : Value} {a : Act} (hw : Region.wanted o (yielded ops a.tmps) = true) (hrun : ∀ w, S w → (execOp a.eval o).run P w = .ok (.value v) w) : YieldsG P ops S o v a :=
  .inl ⟨hw, fun w h => .inl (hrun w h)⟩
end
end Go.Proofs.YtnikhnpigopihaaDoor
namespace Go.Proofs.YtnikhnpigopihaaDoor
open Go.RowKit
set_option linter.unusedVariables false
set_option linter.unusedSimpArgs false
/-- what step 5 leaves -/
def St5Is (gt ga gb k : Nat) (V1 V2 : Value) (w : World) (e : Ending) (w' : World) : Prop := e = .returned (.bool true) ∧ ∃ gb', w.heap.size ≤ gb' ∧ TwB w' gt (.pointer (some ⟨ga, 0, none⟩)) (.pointer (some ⟨gb', 0, none⟩)) V1 V2 ∧ Fr w w' (fun j => j = ga ∨ j = gt) ∧ HashAt w' ga k 0 (firstN k) [] ∧ RefV w' gb' (gb' + 1) k (firstN k) 0 [] (.slice none 0 0)
set_option maxRecDepth 100000 in
set_option maxHeartbeats 3200000 in
theorem step5_walk (gt ga gb k n0 N' : Nat) (S L s' t' : List Nat) (v V1 V2 : Value) (bits : Int) (a : Option Addr) (m c : Nat) (w : World) (hkk : IsKind k) (hk : TwB w gt (.pointer (some ⟨ga, 0, none⟩)) (.pointer (some ⟨gb, 0, none⟩)) V1 V2)
    (hga : ga ≠ gt) (hgb : gb ≠ gt) (hab : ga ≠ gb) (hh : HashAt w ga k N' s' t') (hr : RefV w gb (gb + 1) k S n0 L v) (htab : Tabs w) :
    Calls Tryd.prog 20 #[.pointer (some ⟨gt, 0, none⟩), .agg #[.int .i64 5, .int .i64 bits, .slice a m c]] w (St5Is gt ga gb k V1 V2 w) := by
  have hgt : gt < w.heap.size := Blk.lt hk
  have lga := hh.lt
  have lgb := hr.2.2.2.2.2.2.1.lt
  obtain ⟨W1, hW1⟩ : ∃ W1, w.alloc (.cells #[.int .i64 5, .int .i64 bits, .slice a m c] 47) = W1 := ⟨_, rfl⟩
  have hb1 : Below w.heap.size w W1 := hW1 ▸ (Below.refl w.heap.size w).alloc (Nat.le_refl _) _
  have hs1 : W1.heap.size = w.heap.size + 1 := by rw [← hW1]; simp
  have hbox : Blk W1 w.heap.size 47 [.int .i64 5, .int .i64 bits, .slice a m c] := by rw [← hW1]; exact Blk.new w 47 _
  have hc0 : W1.cell? ⟨w.heap.size, 0, none⟩ = some (.int .i64 5) := hbox.cell 0
  have KT := Lib.hid (show ∀ w', Fr W1 w' (fun j => j = ga) → Blk w' gt 44 [.pointer (some ⟨ga, 0, none⟩), .pointer (some ⟨gb, 0, none⟩), V1, V2] ∧ Blk w' gb 69 (rhV k S n0 v) from fun w' hf =>
    ⟨blk_fr (Blk.below hk hb1 hgt) hf (fun q => hga q.symm), blk_fr (Blk.below hr.2.2.2.2.2.2.1 hb1 lgb) hf (fun q => hab q.symm)⟩)
  have KC := Lib.hid (show ∀ w', Fr W1 w' (fun j => j = ga) → w'.cell? ⟨gt, 0, none⟩ = some (.pointer (some ⟨ga, 0, none⟩)) ∧ w'.cell? ⟨gt, 1, none⟩ = some (.pointer (some ⟨gb, 0, none⟩)) ∧ w'.cell? ⟨gb, 0, none⟩ = some (.int .i64 (k : Nat)) ∧ w'.frozen? ⟨gt, 1, none⟩ = false from fun w' hf => by
    obtain ⟨h1, h2⟩ := KT.out w' hf
    exact ⟨h1.cell 0, h1.cell 1, rh_kind h2, h1.free 1⟩)
  have HRS := Lib.hid (reset_any ga k N' s' t' W1 (hh.belowB hb1 lga) (htab.below hb1))
  have HFI := Lib.hid (fun w' => first36_any k hkk w')
  have HBU := built69' k (firstN k) (firstN_length k)
  have HL := Lib.hid (firstN_length k)
  have HX := Lib.hid (firstN_lt k)
  have HKK := Lib.hid hkk
  have HF1 := Lib.hid (show ∀ F, Fr w W1 F from fun F => Fr.below hb1)
  obtain ⟨kc0, kc1, kc2, kf1⟩ := KC.out W1 (Fr.refl _ _)
  clear hk hh hr htab hb1 hbox hkk
  unfold St5Is
  generalize firstN k = f at *
  generalize hRV : rhV k f 0 (.slice none 0 0) = RV at *
  go_enter Tryd.func20, Tryd.ntmps20
  go_upto_region 19 with (fail)
  try rw [hW1]
  clear hW1
  go_wp2_with fail
  refine HRS.out.mono ?_
  rintro e w2 ⟨rfl, hh2, hg2⟩
  have hf2 : Fr W1 w2 (fun j => j = ga) := Fr.grown hg2 (fun j e _ => by injection e with e; exact e.symm)
  have hsz2 : W1.heap.size ≤ w2.heap.size := hg2.size
  have HF2 := Lib.hid hf2
  have HH2 := Lib.hid hh2
  clear hh2 hg2 hf2 HRS kc0 kc1 kc2 kf1
  obtain ⟨kc0, kc1, kc2, kf1⟩ := KC.out w2 HF2.out
  go_wp2_with fail
  refine wp_region_G (fun w_ => Blk w_ gt 44 [.pointer (some ⟨ga, 0, none⟩), .pointer (some ⟨gb, 0, none⟩), V1, V2] ∧ Blk w_ gb 69 (rhV k S n0 v)) 20 (by kernel_rfl) ⟨(KT.out w2 HF2.out).1.drew, (KT.out w2 HF2.out).2.drew⟩ ?_
  refine wpAnyG_take (oi := _) (v := _) (fun _ _ hS_ hb_ => ⟨hS_.1.gr hb_, hS_.2.gr hb_⟩) (i := 0) rfl (by kernel_rfl) (fun _ _ _ h => h) (pureG (by rfl) (by intro w; go_simp; first | done | with_reducible rfl)) ?_
  try simp only [Act.put, List.getElem_toArray, List.getElem_cons_succ, List.getElem_cons_zero, List.setIfInBounds_toArray, List.set_cons_zero, List.set_cons_succ]
  refine wpAnyG_take (oi := _) (v := _) (fun _ _ hS_ hb_ => ⟨hS_.1.gr hb_, hS_.2.gr hb_⟩) (i := 1) rfl (by kernel_rfl) (fun _ _ _ h => h) (pureG (by rfl) (by intro w; go_simp; first | done | with_reducible rfl)) ?_
  try simp only [Act.put, List.getElem_toArray, List.getElem_cons_succ, List.getElem_cons_zero, List.setIfInBounds_toArray, List.set_cons_zero, List.set_cons_succ]
  refine wpAnyG_take (oi := _) (v := _) (fun _ _ hS_ hb_ => ⟨hS_.1.gr hb_, hS_.2.gr hb_⟩) (i := 2) rfl (by kernel_rfl) (fun _ _ _ h => h) (pureG (by rfl) (by intro w; go_simp; first | done | with_reducible rfl)) ?_
  try simp only [Act.put, List.getElem_toArray, List.getElem_cons_succ, List.getElem_cons_zero, List.setIfInBounds_toArray, List.set_cons_zero, List.set_cons_succ]
  refine wpAnyG_take (oi := _) (v := _) (fun _ _ hS_ hb_ => ⟨hS_.1.gr hb_, hS_.2.gr hb_⟩) (i := 3) rfl (by kernel_rfl) (fun _ _ _ h => h) (pureG (by rfl) (by intro w; go_simp; first | done | with_reducible rfl)) ?_
  try simp only [Act.put, List.getElem_toArray, List.getElem_cons_succ, List.getElem_cons_zero, List.setIfInBounds_toArray, List.set_cons_zero, List.set_cons_succ]
  refine wpAnyG_take (oi := _) (v := _) (fun _ _ hS_ hb_ => ⟨hS_.1.gr hb_, hS_.2.gr hb_⟩) (i := 4) rfl (by kernel_rfl) (fun _ _ _ h => h) (worldG (by rfl) (by intro w_ hS_; have q1 : w_.cell? ⟨gt, 1, none⟩ = some (.pointer (some ⟨gb, 0, none⟩)) := hS_.1.cell 1; go_simp; first | done | with_reducible rfl)) ?_
  try simp only [Act.put, List.getElem_toArray, List.getElem_cons_succ, List.getElem_cons_zero, List.setIfInBounds_toArray, List.set_cons_zero, List.set_cons_succ]
  refine wpAnyG_take (oi := _) (v := _) (fun _ _ hS_ hb_ => ⟨hS_.1.gr hb_, hS_.2.gr hb_⟩) (i := 5) rfl (by kernel_rfl) (fun _ _ _ h => h) (pureG (by rfl) (by intro w; go_simp; first | done | with_reducible rfl)) ?_
  try simp only [Act.put, List.getElem_toArray, List.getElem_cons_succ, List.getElem_cons_zero, List.setIfInBounds_toArray, List.set_cons_zero, List.set_cons_succ]
  refine wpAnyG_take (oi := _) (v := _) (fun _ _ hS_ hb_ => ⟨hS_.1.gr hb_, hS_.2.gr hb_⟩) (i := 6) rfl (by kernel_rfl) (fun _ _ _ h => h) (pureG (by rfl) (by intro w; go_simp; first | done | with_reducible rfl)) ?_
  try simp only [Act.put, List.getElem_toArray, List.getElem_cons_succ, List.getElem_cons_zero, List.setIfInBounds_toArray, List.set_cons_zero, List.set_cons_succ]
  refine wpAnyG_take (oi := _) (v := _) (fun _ _ hS_ hb_ => ⟨hS_.1.gr hb_, hS_.2.gr hb_⟩) (i := 7) rfl (by kernel_rfl) (fun _ _ _ h => h) (worldG (by rfl) (by intro w_ hS_; have q1 := rh_kind hS_.2; go_simp; first | done | with_reducible rfl)) ?_
  try simp only [Act.put, List.getElem_toArray, List.getElem_cons_succ, List.getElem_cons_zero, List.setIfInBounds_toArray, List.set_cons_zero, List.set_cons_succ]
  refine wpAnyG_take (oi := _) (v := _) (fun _ _ hS_ hb_ => ⟨hS_.1.gr hb_, hS_.2.gr hb_⟩) (i := 8) rfl (by kernel_rfl) (fun _ _ _ h => h) (pureG (by rfl) (by intro w; go_simp; first | done | with_reducible rfl)) ?_
  try simp only [Act.put, List.getElem_toArray, List.getElem_cons_succ, List.getElem_cons_zero, List.setIfInBounds_toArray, List.set_cons_zero, List.set_cons_succ]
  refine wpAnyG_take (oi := _) (v := _) (fun _ _ hS_ hb_ => ⟨hS_.1.gr hb_, hS_.2.gr hb_⟩) (i := 9) rfl (by kernel_rfl) (fun _ _ _ h => h) (pureG (by rfl) (by intro w; go_simp; first | done | with_reducible rfl)) ?_
  try simp only [Act.put, List.getElem_toArray, List.getElem_cons_succ, List.getElem_cons_zero, List.setIfInBounds_toArray, List.set_cons_zero, List.set_cons_succ]
  refine wpAnyG_take (oi := _) (v := _) (fun _ _ hS_ hb_ => ⟨hS_.1.gr hb_, hS_.2.gr hb_⟩) (i := 10) rfl (by kernel_rfl) (fun _ _ _ h => h) (pureG (by rfl) (by intro w; go_simp; first | done | with_reducible rfl)) ?_
  try simp only [Act.put, List.getElem_toArray, List.getElem_cons_succ, List.getElem_cons_zero, List.setIfInBounds_toArray, List.set_cons_zero, List.set_cons_succ]
  refine wpAnyG_take (oi := _) (v := _) (fun _ _ hS_ hb_ => ⟨hS_.1.gr hb_, hS_.2.gr hb_⟩) (i := 11) rfl (by kernel_rfl) (fun _ _ _ h => h) (worldG (by rfl) (by intro w_ hS_; have q1 : w_.cell? ⟨gt, 1, none⟩ = some (.pointer (some ⟨gb, 0, none⟩)) := hS_.1.cell 1; go_simp; first | done | with_reducible rfl)) ?_
  try simp only [Act.put, List.getElem_toArray, List.getElem_cons_succ, List.getElem_cons_zero, List.setIfInBounds_toArray, List.set_cons_zero, List.set_cons_succ]
  refine wpAnyG_take (oi := _) (v := _) (fun _ _ hS_ hb_ => ⟨hS_.1.gr hb_, hS_.2.gr hb_⟩) (i := 12) rfl (by kernel_rfl) (fun _ _ _ h => h) (pureG (by rfl) (by intro w; go_simp; first | done | with_reducible rfl)) ?_
  try simp only [Act.put, List.getElem_toArray, List.getElem_cons_succ, List.getElem_cons_zero, List.setIfInBounds_toArray, List.set_cons_zero, List.set_cons_succ]
  refine wpAnyG_take (oi := _) (v := _) (fun _ _ hS_ hb_ => ⟨hS_.1.gr hb_, hS_.2.gr hb_⟩) (i := 13) rfl (by kernel_rfl) (fun _ _ _ h => h) (pureG (by rfl) (by intro w; go_simp; first | done | with_reducible rfl)) ?_
  try simp only [Act.put, List.getElem_toArray, List.getElem_cons_succ, List.getElem_cons_zero, List.setIfInBounds_toArray, List.set_cons_zero, List.set_cons_succ]
  refine wpAnyG_take (oi := _) (v := _) (fun _ _ hS_ hb_ => ⟨hS_.1.gr hb_, hS_.2.gr hb_⟩) (i := 14) rfl (by kernel_rfl) (fun _ _ _ h => h) (worldG (by rfl) (by intro w_ hS_; have q1 := rh_kind hS_.2; go_simp; first | done | with_reducible rfl)) ?_
  try simp only [Act.put, List.getElem_toArray, List.getElem_cons_succ, List.getElem_cons_zero, List.setIfInBounds_toArray, List.set_cons_zero, List.set_cons_succ]
  refine wpAnyG_take (oi := _) (v := _) (fun _ _ hS_ hb_ => ⟨hS_.1.gr hb_, hS_.2.gr hb_⟩) (i := 15) rfl (by kernel_rfl) (fun _ _ _ h => h) (callG (by rfl) rfl Tryd.func36 (by kernel_rfl) (by kernel_rfl) (#[.int .i64 (k : Nat)]) (by simp [Act.eval]) (fun W_ _ => HFI.out W_)) ?_
  try simp only [Act.put, List.getElem_toArray, List.getElem_cons_succ, List.getElem_cons_zero, List.setIfInBounds_toArray, List.set_cons_zero, List.set_cons_succ]
  refine wpAnyG_take (oi := _) (v := _) (fun _ _ hS_ hb_ => ⟨hS_.1.gr hb_, hS_.2.gr hb_⟩) (i := 16) rfl (by kernel_rfl) (fun _ _ _ h => h) (buildG (by rfl) 69 _ rfl RV.toArray HBU (by simp [Act.eval])) ?_
  try simp only [Act.put, List.getElem_toArray, List.getElem_cons_succ, List.getElem_cons_zero, List.setIfInBounds_toArray, List.set_cons_zero, List.set_cons_succ]
  refine wpAnyG_only (i := 17) (by kernel_rfl) (fun W hG hS => ?_)
  refine wpOp_run rfl (by rfl) (v := .pointer (some ⟨W.heap.size, 0, none⟩)) (W2 := W.alloc (.cells RV.toArray 69)) (by go_simp; first | done | with_reducible rfl) ⟨.inr ⟨hS.1.alloc _, hS.2.alloc _⟩, ?_⟩
  try simp only [Act.put, List.getElem_toArray, List.getElem_cons_succ, List.getElem_cons_zero, List.setIfInBounds_toArray, List.set_cons_zero, List.set_cons_succ]
  refine wpAnyG_only (i := 18) (by kernel_rfl) (fun Wa hGa hSa => ?_)
  refine wpOp_run rfl (by rfl) (v := .pointer (some ⟨gt, 0, none⟩)) (W2 := Wa) (by go_simp; first | done | with_reducible rfl) ⟨.inr hSa, ?_⟩
  try simp only [Act.put, List.getElem_toArray, List.getElem_cons_succ, List.getElem_cons_zero, List.setIfInBounds_toArray, List.set_cons_zero, List.set_cons_succ]
  refine wpAnyG_only (i := 19) (by kernel_rfl) (fun Wb hGb hSb => ?_)
  refine wpOp_run rfl (by rfl) (v := .pointer (some ⟨gt, 1, none⟩)) (W2 := Wb) (by go_simp; first | done | with_reducible rfl) ⟨.inr hSb, ?_⟩
  try simp only [Act.put, List.getElem_toArray, List.getElem_cons_succ, List.getElem_cons_zero, List.setIfInBounds_toArray, List.set_cons_zero, List.set_cons_succ]
  refine wpAnyG_only (i := 20) (by kernel_rfl) (fun W' hGc hS' => ?_)
  have hG' : Gr (W.alloc (.cells RV.toArray 69)) W' := (hGa.trans hGb).trans hGc
  have k1 : W'.cell? ⟨gt, 1, none⟩ = some (.pointer (some ⟨gb, 0, none⟩)) := hS'.1.cell 1
  have k2 := hS'.1.free 1
  refine wpOp_skip rfl (by rfl) (W2 := W'.setCell ⟨gt, 1, none⟩ (.pointer (some ⟨W.heap.size, 0, none⟩))) (by go_simp; first | done | with_reducible rfl) ⟨.inl ⟨rfl, by kernel_rfl⟩, wpAnyG_done (by kernel_rfl) (fun W3 h3 => ?_) _⟩
  try simp only [Act.put, List.getElem_toArray, List.getElem_cons_succ, List.getElem_cons_zero, List.setIfInBounds_toArray, List.set_cons_zero, List.set_cons_succ]
  have hWs : w.heap.size ≤ W.heap.size := by have h1 := hG.size; have h2 := hsz2; have h3 : (w2.drew).heap.size = w2.heap.size := rfl; omega
  have hx1 : Fr w2 W (fun j => j = gt) := (show Fr w2 w2.drew (fun j => j = gt) from (Fr.refl _ _).drew).trans (Fr.below hG) (fun j _ e => e)
  have hx2 : Fr w2 W' (fun j => j = gt) := (hx1.trans (Fr.below (Gr.alloc W _)) (fun j _ e => e)).trans (Fr.below hG') (fun j _ e => e)
  have hx3 : Fr W' W3 (fun j => j = gt) := (Fr.grown (F := fun j => j = gt) (grown_setCell W' ⟨gt, 1, none⟩ (.pointer (some ⟨W.heap.size, 0, none⟩))) (fun j e _ => by injection e with e; exact e.symm)).trans (Fr.below h3) (fun j _ e => e)
  have hgW : gt ≠ W.heap.size := by omega
  have hnew : Blk W3 W.heap.size 69 (rhV k f 0 (.slice none 0 0)) := by
    rw [hRV]
    exact blk_fr ((Blk.new W 69 RV).gr hG') hx3 (fun e => hgW e.symm)
  have htw : Blk W3 gt 44 [.pointer (some ⟨ga, 0, none⟩), .pointer (some ⟨W.heap.size, 0, none⟩), V1, V2] := ((hS'.1).set 1 (.pointer (some ⟨W.heap.size, 0, none⟩))).gr h3
  have hW3 : W.heap.size + 1 ≤ W3.heap.size := hnew.lt
  have hx4 := hx2.trans hx3 (fun j _ e => e)
  have HFN := Lib.hid (show Fr w W3 (fun j => j = ga ∨ j = gt) from ((HF1.out _).trans (HF2.out.mono (fun j _ e => .inl e)) (fun j _ e => e)).trans hx4 (fun j _ e => .inr e))
  have HHN := Lib.hid (hash_fr HH2.out hx4 hga)
  have HNEW := Lib.hid hnew
  have HTW := Lib.hid htw
  clear hGa hGb hGc hnew htw hx1 hx2 hx3 hx4 k1 k2 hS hS' hG hG' h3
  go_wp2_with fail
  go_ret
  exact ⟨rfl, W.heap.size, hWs, HTW.out, HFN.out, HHN.out, HKK.out, HL.out, HX.out, by simp, Nat.lt_succ_self _, hW3, HNEW.out, World.ownsRow_nil _ _ _ _⟩
theorem St5Is.step {gt ga gb k n0 : Nat} {S L : List Nat} {v V1 V2 : Value} {As : List An} {m : Nat} {w : World} {e : Ending} {w' : World} (hst : ST w gt ga gb k n0 S L v V1 V2 As.length (As.map An.x) (As.map An.y))
    (h : St5Is gt ga gb k V1 V2 w e w') : StepIs gt ga gb L v V1 V2 As m w e w' := by
  obtain ⟨p1, p2, p3, p4, p5, p6, p7, p8, p9, p10, p11, p12, p13⟩ := hst.apart
  obtain ⟨hk, ht, r1, r2, hne⟩ := hst
  obtain ⟨he, gb', hgb', hk', hf, hh, hr⟩ := h
  have hkk := ht.1.1
  have lga := ht.1.lt
  refine ⟨he, ga, gb', k, 0, firstN k, [], .slice none 0 0, V1, V2, As, ⟨hk', ⟨?_, hr, by omega, Nat.zero_mod _, by simp⟩, own_fr r1 hf ?_, own_fr r2 hf ?_, hne⟩, hf.mono ?_, ?_, .inl rfl, .inr (by simp)⟩
  · have e : goes (wW k) (firstN k) [] = (firstN k, []) := goes_lo (by have := wW_pos k; simp; omega)
    rw [e]; exact hh
  · rintro j hj (q | q)
    · exact p8 (q ▸ hj)
    · exact p7 (q ▸ hj)
  · rintro j hj (q | q)
    · exact p11 (q ▸ hj)
    · exact p10 (q ▸ hj)
  · rintro j _ (q | q)
    · exact .inr (.inl q)
    · exact .inl q
  · rintro j (q | q | q | q | q | q)
    · exact .inl (.inl q)
    · exact .inl (.inr (.inl q))
    · exact .inr (q ▸ hgb')
    · cases q
    · exact .inl (.inr (.inr (.inr (.inr (.inl q)))))
    · exact .inl (.inr (.inr (.inr (.inr (.inr q)))))
theorem step_5 (gt ga gb k n0 : Nat) (S L : List Nat) (v V1 V2 : Value) (As : List An) (bits : Int) (a : Option Addr) (m c : Nat) (w : World) (hst : ST w gt ga gb k n0 S L v V1 V2 As.length (As.map An.x) (As.map An.y)) (htab : Tabs w) :
    Calls Tryd.prog 20 #[.pointer (some ⟨gt, 0, none⟩), .agg #[.int .i64 5, .int .i64 bits, .slice a m c]] w (StepIs gt ga gb L v V1 V2 As m w) :=
  (step5_walk gt ga gb k n0 _ S L _ _ v V1 V2 bits a m c w hst.2.1.1.1 hst.1 hst.apart.1 hst.apart.2.1 hst.apart.2.2.1 hst.2.1.1 hst.2.1.2.1 htab).mono fun e w' h => St5Is.step hst h
end Go.Proofs.YtnikhnpigopihaaDoor
