/- The document's comparisons: of two lists of bytes, of two items. No condition. -/
import Derived.Test.YtbabpmncdphnjaaMt
import Derived.StillTailTactics
import Derived.Deep.RegionWith
namespace Go.Proofs.Ytbabpmncdphnjaa
open Go.RowKit
set_option linter.unusedVariables false
set_option maxRecDepth 100000

theorem wpStill_load_mid {P : Program} {ops : Array Oper} {rest : List Oper} {o : Oper} {a : Act} {w : World} {Q : Act → Prop} (hgd : o.guard = none) (ty : TypeId) (x : Operand) (ho : o.op = .load ty x)
    (b f : Nat) (hx : a.eval x = .pointer (some ⟨b, f, none⟩)) (cs : List Value) (d : TypeDesc) (hc : w.rangeAt b f cs)
    (hu : P.underlying ty = some d) (hd : d.isRow = true) (hi : (P.info? ty).map (·.size) = some cs.length)
    (h : wpStill P ops w Q rest (a.put o.dst (.agg cs.toArray))) : wpStill P ops w Q (o :: rest) a := by
  refine wpStill_step fun K hK => ?_
  have hw : Region.wanted o (yielded ops a.tmps) = true := by simp [Region.wanted, hgd]
  rw [hw, if_pos rfl]
  unfold Oper.still execOp
  simp only [ho, hx, Instr.loadAt, Instr.sureAddr, Sem.run_bind, Sem.run_pure, Result.andThen_ok, run_loadVar_mid w b f ty cs d hc hu hd hi]
  exact ⟨rfl, hK _ h⟩

theorem take_eq_all {b b2 : List Nat} (hl : b.length = b2.length) (k : Nat) (hk : b.length ≤ k) (h : b.take k = b2.take k) : b = b2 := by
  rwa [List.take_of_length_le hk, List.take_of_length_le (by omega)] at h
theorem int_ne {x y : Nat} (h : x ≠ y) : ((x : Int) != (y : Int)) = true := by simp; omega
theorem take_ne {b b2 : List Nat} (k : Nat) (h1 : k < b.length) (h2 : k < b2.length) (h : b.getD k 0 ≠ b2.getD k 0) : b ≠ b2 := fun e => h (by rw [e])

set_option maxRecDepth 100000 in
set_option maxHeartbeats 4000000 in
theorem sameB_any (w : World) (a a' : Option Addr) (n c n' c' : Nat) (b b' : List Nat) (hb : BIn w a n c b) (hb' : BIn w a' n' c' b') :
    Calls Try.prog 13 #[.slice a n c, .slice a' n' c'] w fun e w' => e = .returned (.bool (decide (b = b'))) ∧ Below w.heap.size w w' := by
  have hn := hb.1.1
  have hn' := hb'.1.1
  by_cases hl : n = n'
  · subst hl
    have hm : n ≤ maxLen := hb.1.2.1
    unfold maxLen at hm
    have HA := Lib.hid hb
    have HB := Lib.hid hb'
    clear hb hb'
    go_enter Try.func13, Try.ntmps13
    go_wp2
    go_loopw [5] (fun i wr => ∃ k : Nat, k ≤ n ∧ i = .int .i64 k ∧ b.take k = b'.take k ∧ Below w.heap.size w wr) (fun i _ => n - (intOf i).toNat)
    case atStart => exact ⟨0, Nat.zero_le _, rfl, rfl, Below.refl _ _⟩
    case round =>
      obtain ⟨k, hk, rfl, htk, hbel⟩ := hrel
      have HT := Lib.hid htk
      clear htk
      by_cases hkn : k < n
      · obtain ⟨b1, o1, rfl, hc1⟩ := HA.out.1.2.2.2.resolve_left (by omega)
        obtain ⟨b2, o2, rfl, hc2⟩ := HB.out.1.2.2.2.resolve_left (by omega)
        have g1 := hc1 k hkn
        have g2 := hc2 k hkn
        have e1 : wr.cell? ⟨b1, o1 + k, none⟩ = some (.int .u8 (b.getD k 0 : Nat)) := (hbel.cell (World.block_lt_of_cell? w _ g1)).trans g1
        have e2 : wr.cell? ⟨b2, o2 + k, none⟩ = some (.int .u8 (b'.getD k 0 : Nat)) := (hbel.cell (World.block_lt_of_cell? w _ g2)).trans g2
        clear hc1 hc2 g1 g2
        have hki : (k : Int) < (n : Int) := by omega
        have hs1 := take_snoc b k (by omega)
        have hs2 := take_snoc b' k (by omega)
        have HS1 := Lib.hid hs1
        have HS2 := Lib.hid hs2
        clear hs1 hs2
        by_cases hxy : b.getD k 0 = b'.getD k 0
        · rw [hxy] at e1 HS1
          generalize b'.getD k 0 = x at *
          go_wp2_with fail
          go_quiet (fail)
          have hbel2 : Below w.heap.size w (wr.drewN nq) := below_drewN hbel nq
          go_wp2
          go_roundw
          case rel => exact ⟨k + 1, by omega, by go_num, by rw [HS1.out, HS2.out, HT.out], hbel2⟩
          case measure => simp [intOf]; omega
        · have hne := Lib.hid (take_ne k (by omega) (by omega) hxy)
          have hb1 : (((b.getD k 0 : Nat) : Int) != ((b'.getD k 0 : Nat) : Int)) = true := int_ne hxy
          generalize b.getD k 0 = x at *
          generalize b'.getD k 0 = y at *
          go_wp2_with fail
          go_quiet (fail)
          have hbel2 : Below w.heap.size w (wr.drewN nq) := below_drewN hbel nq
          go_wp2
          go_ret
          exact ⟨by rw [decide_eq_false hne.out]; rfl, hbel2⟩
      · have hki : ¬ (k : Int) < (n : Int) := by omega
        go_wp2
        go_ret
        exact ⟨by rw [decide_eq_true (take_eq_all (by omega) k (by omega) HT.out)]; rfl, hbel⟩
  · have hne : b ≠ b' := fun e => hl (by rw [← hn, ← hn', e])
    have hni : ((n : Int) != (n' : Int)) = true := int_ne hl
    have HNE := Lib.hid hne
    clear hb hb' hn hn' hne
    go_enter Try.func13, Try.ntmps13
    go_wp2
    go_ret
    exact ⟨by rw [decide_eq_false HNE.out]; rfl, Below.refl _ _⟩

/-- are two items one? -/
def eqI (t t' : Nat) (b b' : List Nat) (k k' : Tr) : Bool := decide (t = t' ∧ b = b' ∧ k = k')
theorem eqI_true {t t' : Nat} {b b' : List Nat} {k k' : Tr} (h : t = t' ∧ b = b' ∧ k = k') : eqI t t' b b' k k' = true := decide_eq_true h
theorem eqI_false {t t' : Nat} {b b' : List Nat} {k k' : Tr} (h : ¬ (t = t' ∧ b = b' ∧ k = k')) : eqI t t' b b' k k' = false := decide_eq_false h
theorem retB {x y : Bool} (h : y = x) : Ending.returned (.bool x) = Ending.returned (.bool y) := by rw [h]
theorem app_heads : ∀ {A : Tr} {t1 t2 : Nat} {b1 b2 : List Nat} {k1 k2 r1 r2 : Tr}, A.app (.node t1 b1 k1 r1) = A.app (.node t2 b2 k2 r2) → t1 = t2 ∧ b1 = b2 ∧ k1 = k2
  | .nil, _, _, _, _, _, _, _, _, h => by simp only [Tr.app] at h; injection h with h1 h2 h3 h4; exact ⟨h1, h2, h3⟩
  | .node _ _ _ A, _, _, _, _, _, _, _, _, h => by simp only [Tr.app] at h; injection h with h1 h2 h3 h4; exact app_heads h4
theorem app_ne {A r r' : Tr} (h : r ≠ r') : A.app r ≠ A.app r' := by
  induction A with
  | nil => exact h
  | node t b k s ih1 ih2 => intro e; injection e; exact ih2 ‹_›
theorem rangeAt_new2 (w : World) (o : Obj) (v0 v1 v2 : Value) (t : TypeId) : ((w.alloc o).alloc (.cells #[v0, v1, v2] t)).rangeAt (w.heap.size + 1) 0 [v0, v1, v2] := by
  have h := rangeAt_new (w.alloc o) v0 v1 v2 t
  rwa [World.size_alloc] at h

set_option maxRecDepth 100000 in
set_option maxHeartbeats 8000000 in
theorem sameI_any : ∀ (N : Nat) (k : Tr), k.sz < N → ∀ (w : World) (t t' : Nat) (b b' : List Nat) (k' : Tr) (a a1 a' a1' : Option Addr) (c c1 c' c1' : Nat), ItIn w t a c a1 c1 b k → ItIn w t' a' c' a1' c1' b' k' →
    Calls Try.prog 11 #[itV t a b.length c a1 k.len c1, itV t' a' b'.length c' a1' k'.len c1'] w fun e w' => e = .returned (.bool (eqI t t' b b' k k')) ∧ Below w.heap.size w w' := by
  intro N
  induction N with
  | zero => intro k h; omega
  | succ N ih =>
    intro k hsz w t t' b b' k' a a1 a' a1' c c1 c' c1' hi hi'
    obtain ⟨ht, hb, hk⟩ := hi
    obtain ⟨ht', hb', hk'⟩ := hi'
    have hbel0 : ∀ o o', Below w.heap.size w ((w.alloc o).alloc o') := fun o o' => ((Below.refl _ w).alloc (Nat.le_refl _) o).alloc (by simp) o'
    have HB := Lib.hid hb
    have HB' := Lib.hid hb'
    have HK := Lib.hid hk
    have HK' := Lib.hid hk'
    have IH := Lib.hid ih
    have HS := Lib.hid hsz
    have hkm : k.len ≤ 140737488355328 := hk.1.2.1
    have hbm : b.length ≤ 140737488355328 := hb.2.2.2.1
    clear hb hb' hk hk' ih hsz
    by_cases hall : t = t' ∧ b.length = b'.length ∧ k.len = k'.len
    · obtain ⟨rfl, e1, e2⟩ := hall
      have E1 := Lib.hid e1
      have E2 := Lib.hid e2
      rw [← e1, ← e2]
      clear e1 e2
      have hW1 := (rangeAt_new w (.int .u8 (t : Nat)) (.slice a b.length c) (.slice a1 k.len c1) 25)
      have hW2 := (rangeAt_new2 w (.cells #[.int .u8 (t : Nat), .slice a b.length c, .slice a1 k.len c1] 25) (.int .u8 (t : Nat)) (.slice a' b.length c') (.slice a1' k.len c1') 25)
      have hW3 := rangeAt_below hW1 ((Below.refl _ _).alloc (Nat.le_refl _) (.cells #[.int .u8 (t : Nat), .slice a' b.length c', .slice a1' k.len c1'] 25))
      clear hW1
      have hB0 := hbel0 (.cells #[.int .u8 (t : Nat), .slice a b.length c, .slice a1 k.len c1] 25) (.cells #[.int .u8 (t : Nat), .slice a' b.length c', .slice a1' k.len c1'] 25)
      have hs2 : w.heap.size + 2 ≤ ((w.alloc (.cells #[.int .u8 (t : Nat), .slice a b.length c, .slice a1 k.len c1] 25)).alloc (.cells #[.int .u8 (t : Nat), .slice a' b.length c', .slice a1' k.len c1'] 25)).heap.size := by simp
      have HW2 := Lib.hid hW2
      have HW3 := Lib.hid hW3
      have HB0 := Lib.hid hB0
      have HS2 := Lib.hid hs2
      clear hW2 hW3 hB0 hs2
      generalize hbn : b.length = bn at *
      generalize hkn : k.len = kn at *
      have HBN := Lib.hid hbn
      have HKN := Lib.hid hkn
      clear hbn hkn
      go_enter Try.func11, Try.ntmps11
      go_wp2
      generalize ((w.alloc (.cells #[.int .u8 (t : Nat), .slice a bn c, .slice a1 kn c1] 25)).alloc (.cells #[.int .u8 (t : Nat), .slice a' bn c', .slice a1' kn c1'] 25)) = W2 at *
      go_loopw [5] (fun i wr => ∃ j : Nat, j ≤ bn ∧ i = .int .i64 j ∧ b.take j = b'.take j ∧ Below W2.heap.size W2 wr) (fun i _ => bn - (intOf i).toNat)
      case atStart => exact ⟨0, Nat.zero_le _, rfl, rfl, Below.refl _ _⟩
      case round =>
        obtain ⟨j, hj, rfl, htk, hbel⟩ := hrel
        have HT := Lib.hid htk
        clear htk
        have hr1 := rangeAt_below HW3.out hbel
        have hr2 := rangeAt_below HW2.out hbel
        have k1 : wr.cell? ⟨w.heap.size, 0 + 1, none⟩ = some (.slice a bn c) := hr1 1 _ rfl
        have k2 : wr.cell? ⟨w.heap.size + 1, 0 + 1, none⟩ = some (.slice a' bn c') := hr2 1 _ rfl
        have hbw : Below w.heap.size w wr := HB0.out.trans (hbel.mono (by have := HS2.out; omega))
        clear hr1 hr2
        by_cases hkn : j < bn
        · obtain ⟨b1, o1, rfl, hc1⟩ := HB.out.1.2.2.2.resolve_left (by omega)
          obtain ⟨b2, o2, rfl, hc2⟩ := HB'.out.1.2.2.2.resolve_left (by have := E1.out; omega)
          have g1 := hc1 j hkn
          have g2 := hc2 j (by have := E1.out; omega)
          have e1 : wr.cell? ⟨b1, o1 + j, none⟩ = some (.int .u8 (b.getD j 0 : Nat)) := (hbw.cell (World.block_lt_of_cell? w _ g1)).trans g1
          have e2 : wr.cell? ⟨b2, o2 + j, none⟩ = some (.int .u8 (b'.getD j 0 : Nat)) := (hbw.cell (World.block_lt_of_cell? w _ g2)).trans g2
          clear hc1 hc2 g1 g2
          have hki : (j : Int) < (bn : Int) := by omega
          have HS1 := Lib.hid (take_snoc b j (by have := HBN.out; omega))
          have HS2' := Lib.hid (take_snoc b' j (by have := E1.out; omega))
          by_cases hxy : b.getD j 0 = b'.getD j 0
          · rw [hxy] at e1 HS1
            generalize b'.getD j 0 = x at *
            go_wp2_with fail
            go_quiet (fail)
            have hbel2 : Below W2.heap.size W2 (wr.drewN nq) := below_drewN hbel nq
            go_wp2
            go_roundw
            case rel => exact ⟨j + 1, by omega, by go_num, by rw [HS1.out, HS2'.out, HT.out], hbel2⟩
            case measure => simp [intOf]; omega
          · have hne := Lib.hid (take_ne j (by have := HBN.out; omega) (by have := E1.out; omega) hxy)
            have hb1 : (((b.getD j 0 : Nat) : Int) != ((b'.getD j 0 : Nat) : Int)) = true := int_ne hxy
            generalize b.getD j 0 = x at *
            generalize b'.getD j 0 = y at *
            go_wp2_with fail
            go_quiet (fail)
            have hbel2 : Below w.heap.size w (wr.drewN nq) := below_drewN hbw nq
            go_wp2
            go_ret
            exact ⟨retB (eqI_false (fun h => hne.out h.2.1)), hbel2⟩
        · have hki : ¬ (j : Int) < (bn : Int) := by omega
          have HBE := Lib.hid (take_eq_all (by rw [HBN.out, E1.out]) j (by rw [HBN.out]; omega) HT.out)
          go_wp2
          go_loopw [6] (fun i wx => ∃ (A r r' : Tr) (j : Nat), k = A.app r ∧ k' = A.app r' ∧ A.len = j ∧ i = .int .i64 (j : Nat) ∧ Below W2.heap.size W2 wx) (fun i _ => kn - (intOf i).toNat)
          case atStart => exact ⟨.nil, k, k', 0, rfl, rfl, rfl, rfl, hbel⟩
          case round =>
            obtain ⟨A, r, r', i, hA, hA', hi, rfl, hbx⟩ := hrel
            have hlen : i + r.len = kn := by rw [← HKN.out, hA, Tr.len_app, hi]
            have hlen' : i + r'.len = kn := by rw [E2.out, hA', Tr.len_app, hi]
            have hr1 := rangeAt_below HW3.out hbx
            have hr2 := rangeAt_below HW2.out hbx
            have k3 : wr.cell? ⟨w.heap.size, 0 + 2, none⟩ = some (.slice a1 kn c1) := hr1 2 _ rfl
            have k4 : wr.cell? ⟨w.heap.size + 1, 0 + 2, none⟩ = some (.slice a1' kn c1') := hr2 2 _ rfl
            have hbw2 : Below w.heap.size w wr := HB0.out.trans (hbx.mono (by have := HS2.out; omega))
            have HA := Lib.hid hA
            have HA' := Lib.hid hA'
            have HI := Lib.hid hi
            clear hr1 hr2 hA hA' hi
            by_cases hkk : i < kn
            · have hki2 : (i : Int) < (kn : Int) := by omega
              obtain ⟨t1, b1, k1', r1, rfl⟩ := Tr.len_pos (T := r) (by omega)
              obtain ⟨t2, b2, k2', r2, rfl⟩ := Tr.len_pos (T := r') (by omega)
              obtain ⟨p1, o1, rfl, hrow⟩ := HK.out.2.resolve_left (by have := HKN.out; omega)
              obtain ⟨p2, o2, rfl, hrow'⟩ := HK'.out.2.resolve_left (by have := E2.out; omega)
              rw [HA.out] at hrow
              rw [HA'.out] at hrow'
              have hrow3 := Row.below hbw2 (Row.append hrow).2
              have hrow4 := Row.below hbw2 (Row.append hrow').2
              have ee : o1 + 3 * A.len = o1 + i * 3 := by rw [HI.out]; omega
              have ee' : o2 + 3 * A.len = o2 + i * 3 := by rw [HI.out]; omega
              rw [ee] at hrow3
              rw [ee'] at hrow4
              obtain ⟨ax, cx, ay, cy, hra, hit, _⟩ := hrow3.head
              obtain ⟨au, cu, av, cv, hrb, hit', _⟩ := hrow4.head
              have hszk : k1'.sz < N := by
                have h1 := Tr.sz_app A (.node t1 b1 k1' r1)
                rw [← HA.out] at h1
                have h2 := HS.out
                simp only [Tr.sz] at h1; omega
              have HC := Lib.hid (IH.out k1' hszk wr.drew t1 t2 b1 b2 k2' ax ay au av cx cy cu cv (hit.below ((Below.refl _ wr).drew)) (hit'.below ((Below.refl _ wr).drew)))
              have HR1 := Lib.hid (rangeAt_below hra ((Below.refl _ wr).drew))
              have HR2 := Lib.hid (rangeAt_below hrb ((Below.refl _ wr).drew))
              clear hrow hrow' hrow3 hrow4 hit hit' hra hrb
              go_wp2_with fail
              refine wp_region_still_tail 10 (by kernel_rfl) (by kernel_rfl) ?_
              change wpStill _ _ wr.drew _ _ _
              simp only [List.take_succ_cons, List.take_zero, List.drop_succ_cons, List.drop_zero]
              iterate 4 still_step
              refine wpStill_load_mid rfl 25 (.tmp 59) rfl p1 (o1 + i * 3) rfl [.int .u8 (t1 : Nat), .slice ax b1.length cx, .slice ay k1'.len cy] _ HR1.out Try.underlying25 rfl info25 ?_
              iterate 4 still_step
              refine wpStill_load_mid rfl 25 (.tmp 64) rfl p2 (o2 + i * 3) rfl [.int .u8 (t2 : Nat), .slice au b2.length cu, .slice av k2'.len cv] _ HR2.out Try.underlying25 rfl info25 ?_
              refine wpStill_nil ?_
              change wpList _ _ _ _ _ wr.drew
              by_cases heq : t1 = t2 ∧ b1 = b2 ∧ k1' = k2'
              · rw [eqI_true heq] at HC
                have HE := Lib.hid heq
                clear heq
                go_wp2_with (go_at_call 11; refine HC.out.mono ?_; rintro e w3 ⟨rfl, hb3⟩)
                have hb4 : Below W2.heap.size W2 w3 := (hbx.drew).trans (hb3.mono hbx.size)
                obtain ⟨rfl, rfl, rfl⟩ := HE.out
                go_roundw
                case rel => exact ⟨A.app (.node t1 b1 k1' .nil), r1, r2, i + 1, by rw [HA.out, Tr.app_assoc]; rfl, by rw [HA'.out, Tr.app_assoc]; rfl, by rw [Tr.len_app, HI.out]; rfl, by go_num, hb4⟩
                case measure => simp [intOf]; omega
              · rw [eqI_false heq] at HC
                have HNE := Lib.hid (fun (h : t = t ∧ b = b' ∧ k = k') => heq (app_heads (A := A) (by rw [← HA.out, ← HA'.out]; exact h.2.2)))
                clear heq
                go_wp2_with (go_at_call 11; refine HC.out.mono ?_; rintro e w3 ⟨rfl, hb3⟩)
                have hb4 : Below w.heap.size w w3 := (hbw2.drew).trans (hb3.mono hbw2.size)
                go_ret
                exact ⟨retB (eqI_false (fun h => HNE.out ⟨trivial, h.2⟩)), hb4⟩
            · have hr0 := Tr.len_zero (T := r) (by omega)
              have hr0' := Tr.len_zero (T := r') (by omega)
              have hki2 : ¬ (i : Int) < (kn : Int) := by omega
              have HE := Lib.hid (show t = t ∧ b = b' ∧ k = k' from ⟨rfl, HBE.out, by rw [HA.out, HA'.out, hr0, hr0']⟩)
              clear hr0 hr0'
              go_wp2
              go_ret
              exact ⟨retB (eqI_true ⟨rfl, HE.out.2⟩), hbw2⟩
    · have HNE := Lib.hid (fun (h : t = t' ∧ b = b' ∧ k = k') => hall ⟨h.1, by rw [h.2.1], by rw [h.2.2]⟩)
      have hb0 := Lib.hid (hbel0 (.cells #[.int .u8 (t : Nat), .slice a b.length c, .slice a1 k.len c1] 25) (.cells #[.int .u8 (t' : Nat), .slice a' b'.length c', .slice a1' k'.len c1'] 25))
      by_cases h1 : t = t'
      · subst h1
        by_cases h2 : b.length = b'.length
        · have h3 : k.len ≠ k'.len := fun e => hall ⟨rfl, h2, e⟩
          have q3 := int_ne h3
          rw [← h2]
          rw [← h2] at hb0
          generalize b.length = bn at *
          generalize k.len = kn at *
          generalize k'.len = kn' at *
          go_enter Try.func11, Try.ntmps11
          go_wp2
          go_ret
          exact ⟨retB (eqI_false (fun h => HNE.out ⟨trivial, h.2⟩)), hbel0 _ _⟩
        · have q2 := int_ne h2
          generalize b.length = bn at *
          generalize b'.length = bn' at *
          go_enter Try.func11, Try.ntmps11
          go_wp2
          go_ret
          exact ⟨retB (eqI_false (fun h => HNE.out ⟨trivial, h.2⟩)), hbel0 _ _⟩
      · have q1 := int_ne h1
        go_enter Try.func11, Try.ntmps11
        go_wp2
        go_ret
        exact ⟨retB (eqI_false HNE.out), hbel0 _ _⟩
end Go.Proofs.Ytbabpmncdphnjaa
