/- The document's Read of a fresh sponge. No condition. -/
import Derived.Test.YtidnlaibfkjgpaaDoorKRc
import Derived.Test.YtidnlaibfkjgpaaDoorKTop
import Derived.Deep.RegionLaw
import Derived.Deep.RegionHeld3
import Derived.Deep.CutRange
import Derived.Deep.RegionWith
namespace Go.Proofs.YtidnlaibfkjgpaaDoor
open Go.RowKit
set_option linter.unusedVariables false
theorem wpStill_load_mid {P : Program} {ops : Array Oper} {rest : List Oper} {o : Oper} {a : Act} {w : World} {Q : Act → Prop} (hgd : o.guard = none) (ty : TypeId) (x : Operand) (ho : o.op = .load ty x)
    (b f : Nat) (hx : a.eval x = .pointer (some ⟨b, f, none⟩)) (cs : List Value) (d : TypeDesc) (hc : w.rangeAt b f cs)
    (hu : P.underlying ty = some d) (hd : d.isRow = true) (hi : (P.info? ty).map (·.size) = some cs.length)
    (h : wpStill P ops w Q rest (a.put o.dst (.agg cs.toArray))) : wpStill P ops w Q (o :: rest) a := by
  refine wpStill_step fun K hK => ?_
  have hw : Region.wanted o (yielded ops a.tmps) = true := by simp [Region.wanted, hgd]
  rw [hw, if_pos rfl]
  unfold Oper.still execOp
  simp only [ho, hx, Instr.loadAt, Instr.sureAddr, Sem.run_bind, Sem.run_pure, Result.andThen_ok, run_loadVar_mid w b f ty cs d hc hu hd hi]
  exact ⟨rfl, hK _ h⟩
theorem step_append_bytes {ops : Array Oper} {o : Oper} {a : Act} {w : World} {K : Act → World → Prop} {Q : Exit → Act → World → Prop} {E : Prop}
    (hg : o.guard = none) (s x : Operand) (hop : o.op = Op.call { callee := Callee.builtin Builtin.append, args := #[s, x], argTypes := #[27, 27] })
    (base : Nat) (v : Value) (n : Nat) (xs : List Nat) (hs : a.eval s = v) (hown : w.ownsRow base 5 1 v n (bytesV xs)) (b off : Nat) (m c : Nat) (l : List Nat) (hx : a.eval x = .slice (some ⟨b, off, none⟩) m c) (hr : BIn w (some ⟨b, off, none⟩) m c l)
    (hb : n + m ≤ 140737488355328) (hbase : base ≤ w.heap.size)
    (hK : ∀ v' w', w'.ownsRow base 5 1 v' (n + m) (bytesV (xs ++ l)) → w.grownBy w' v.ownBlock → K (a.put o.dst v') w') :
    if Region.wanted o (yielded ops a.tmps) = true then Oper.wp Tryd.prog o a w K Q else E := by
  have hw : Region.wanted o (yielded ops a.tmps) = true := by simp [Region.wanted, hg]
  rw [if_pos hw]
  obtain ⟨i0, hi, hz0, hz1, hz2⟩ := info_parts info5
  obtain ⟨⟨hl, hm, hlt, hrow⟩, hc1, hc2, _, hnil⟩ := hr
  have hcs : ∀ j u, (bytesV l)[j]? = some u → w.cell? ((⟨b, off, none⟩ : Addr).add j) = some u := by
    intro j u hu
    have hj : j < l.length := by
      rcases Nat.lt_or_ge j l.length with h | h
      · exact h
      · rw [List.getElem?_eq_none (by simpa [bytesV] using h)] at hu; cases hu
    obtain ⟨b', off', hA, hc⟩ := hrow.resolve_left (by omega)
    injection hA with hA
    injection hA with e1 e2
    subst e1 e2
    have hadd : (⟨b, off, none⟩ : Addr).add j = ⟨b, off + j, none⟩ := by unfold Addr.add; split <;> simp_all
    rw [hadd, hc j (by omega), ← hu]
    simp [bytesV, List.getD_eq_getElem?_getD, List.getElem?_eq_getElem hj]
  have hone : ∀ u ∈ bytesV l, u.oneCell' = true := by
    intro u hu; obtain ⟨y, _, rfl⟩ := List.mem_map.1 hu; rfl
  obtain ⟨v', w', hrun, h1, h2, _⟩ := run_append_own (P := Tryd.prog) w base 27 o.type 5 i0 (.int .u8 0) 1 1 Tryd.underlying27 hi hz0 hz1 hz2 rfl (by decide) v n (bytesV xs) hown ⟨b, off, none⟩ m c (bytesV l) (by simpa [bytesV] using hl) hcs hone (by simp only [maxLen]; omega) (by omega) hbase
  unfold Oper.wp
  simp [execOp, hop, resolve, invoke, builtin, hs, hx, hrun, Result.andThen]
  exact hK v' w' (by simpa [bytesV] using h1) h2
section
variable {w : World} {g : Nat} {K I O N R : Value} {s : List Nat}
theorem rs_setOut (h : Blk w g 72 (rsV K I O N s R)) (v : Value) : Blk (w.setCell ⟨g, 2, none⟩ v) g 72 (rsV K I v N s R) := h.set 2 v
theorem rs_setN (h : Blk w g 72 (rsV K I O N s R)) (v : Value) : Blk (w.setCell ⟨g, 3, none⟩ v) g 72 (rsV K I O v s R) := h.set 3 v
end
theorem permN_good {s : List Nat} (h : Good s) : ∀ n, Good (permN s n)
  | 0 => h
  | n + 1 => perm_good (permN_good h n)
/-- how often was permuted before byte i -/
def rhoN (r i : Nat) : Nat := (i - 1) / r
theorem rhoN_le {r i : Nat} (hr : 0 < r) : rhoN r i ≤ i / r := Nat.div_le_div_right (by omega)
theorem rhoN_succ (r i : Nat) : rhoN r (i + 1) = i / r := by unfold rhoN; rw [Nat.add_sub_cancel]
/-- the byte of place i, permuted late -/
theorem late_byte {r : Nat} (hr : 0 < r) (s : List Nat) (i : Nat) : byteN (sqS r (s, 0) i).1 (sqS r (s, 0) i).2 = byteN (permN s (i / r)) (i % r) := by rw [sqS_is r hr]
/-- the count of permutations in memory -/
def ratesAt (g : Nat) (w : World) : Nat := (intOf ((w.cell? ⟨g, 29, none⟩).getD undef)).toNat
theorem ratesAt_is {w : World} {g c : Nat} {K I O N : Value} {s : List Nat} (h : Blk w g 72 (rsV K I O N s (.int .i64 (c : Nat)))) (hs : s.length = 25) : ratesAt g w = c := by
  unfold ratesAt; rw [rs_rates h hs]; simp [intOf]
theorem grown_own {a b c : World} {g : Nat} {r : Option Nat} (h : a.grownBy b (some g)) (k : b.grownBy c r) (hr : ∀ j, r = some j → a.heap.size ≤ j) : a.grownBy c (some g) :=
  ⟨k.os.trans h.os, k.tape.trans h.tape, k.output.trans h.output, Nat.le_trans h.size k.size, fun i hi hn => (k.block i (Nat.lt_of_lt_of_le hi h.size) (fun e => by have := hr i e.symm; omega)).trans (h.block i hi hn)⟩
theorem grown_drew {w w' : World} {r : Option Nat} (h : w.grownBy w' r) : w.grownBy w'.drew r := ⟨h.os, h.tape, h.output, h.size, h.block⟩
/-- what Read answers -/
def ReadIs (g n : Nat) (l : List Nat) (w : World) (e : Ending) (w' : World) : Prop := ∃ v, e = .returned v ∧ w'.ownsRow w.heap.size 5 1 v n (bytesV l) ∧ w.grownBy w' (some g)
set_option maxRecDepth 100000 in
set_option maxHeartbeats 1600000 in
theorem read_ref (g k n : Nat) (A : Option Addr) (m c : Nat) (l : List Nat) (w : World) (hk : IsKind k) (hb : BIn w A m c l) (hm : m ≤ 140737488351232) (hn : n ≤ 65536)
    (h : Blk w g 72 (rsV (.int .i64 (k : Nat)) (.slice A m c) (.bool false) (.int .i64 0) (zeros 25) (.int .i64 0))) :
    Calls Tryd.prog 37 #[.pointer (some ⟨g, 0, none⟩), .int .i64 (n : Nat)] w (ReadIs g n (allK k l n) w) := by
  have hr := rateK_le hk
  have HRK := Lib.hid (fun w => refKind_any k hk w)
  have HBG := Lib.hid (begin_ref g k (.bool false) (.int .i64 0) (.int .i64 0) (zeros 25) A m c l w hk rfl hb hm h)
  have h0 := rs_kind h
  have h2 := rs_out h
  have hgw := h.lt
  have HSE := Lib.hid (endN_good (k := k) (absL_good (r := rateK k) (by omega) l (zeros 25, 0) good_nought (by show 0 < rateK k; omega)).1)
  have HAL := Lib.hid (show ∀ i, allK k l i = tell (fun i => byteN (permN (endN k (absL (rateK k) (zeros 25, 0) l)) (i / rateK k)) (i % rateK k)) i from fun i => by
    unfold allK sqB
    congr 1; funext j
    exact late_byte (by omega) _ j)
  clear hk hb h
  generalize endN k (absL (rateK k) (zeros 25, 0) l) = s at *
  go_enter Tryd.func37, Tryd.ntmps37
  go_wp2_with fail
  refine (HRK.out _).mono ?_
  rintro e w' ⟨rfl, rfl⟩
  go_wp2_with fail
  refine HBG.out.mono ?_
  rintro e w1 ⟨rfl, hb1, hg1⟩
  have hf := hb1.free 2
  have hc2 := rs_out hb1
  have HB2 := Lib.hid (rs_setOut hb1 (.bool true))
  have HG2 := Lib.hid (grown_trans hg1 (grown_setCell w1 ⟨g, 2, none⟩ (.bool true)))
  clear hb1 hg1 HBG HRK h0 h2
  go_wp2_with fail
  go_loopw [9, 10] (fun v9 v10 wr => ∃ (i : Nat) (V : Value), V = v9 ∧ v10 = .int .i64 i ∧ i ≤ n ∧ wr.ownsRow w.heap.size 5 1 v9 i (bytesV (allK k l i)) ∧ Blk wr g 72 (rsV (.int .i64 (k : Nat)) (.slice A m c) (.bool true) (.int .i64 i) (permN s (rhoN (rateK k) i)) (.int .i64 (rhoN (rateK k) i : Nat))) ∧ w.grownBy wr (some g)) (fun _ v10 _ => n - (intOf v10).toNat)
  case atStart =>
    have e0 : rhoN (rateK k) 0 = 0 := by unfold rhoN; simp
    refine ⟨0, _, rfl, rfl, by omega, ⟨rfl, .inl ⟨rfl, rfl⟩⟩, ?_, HG2.out⟩
    rw [e0]; exact HB2.out
  case round =>
    clear HB2 HG2 hf hc2
    obtain ⟨i, V, hV, rfl, hin, ho, hbl, hgr⟩ := hrel
    subst hV
    have HO := Lib.hid ho
    have HBL := Lib.hid hbl
    have HGR := Lib.hid hgr
    clear ho hbl hgr
    by_cases hq : i < n
    · have hqi : (i : Int) < (n : Int) := by omega
      have hirl := rhoN_le (r := rateK k) (i := i) (by omega)
      have hr0 : 0 < rateK k := by omega
      have hrz : rateK k ≠ 0 := by omega
      have m1 : (i : Int).tdiv (rateK k : Int) = ((i / rateK k : Nat) : Int) := by rw [Int.tdiv_eq_ediv_of_nonneg (by omega), ← Int.natCast_ediv]
      have m1' : (i : Int) / (rateK k : Int) = ((i / rateK k : Nat) : Int) := (Int.natCast_ediv _ _).symm
      have m2 : (i : Int).tmod (rateK k : Int) = ((i % rateK k : Nat) : Int) := by rw [Int.tmod_eq_emod_of_nonneg (by omega), ← Int.natCast_emod]
      have m2' : (i : Int) % (rateK k : Int) = ((i % rateK k : Nat) : Int) := (Int.natCast_emod _ _).symm
      have hqb : i / rateK k ≤ i := Nat.div_le_self _ _
      have hrm : i % rateK k < 200 := by have := Nat.mod_lt i hr0; omega
      have w1 : IntKind.i64.wrap ((i / rateK k : Nat) : Int) = ((i / rateK k : Nat) : Int) := by rw [IntWalk.i64_in _ (by omega)]
      have w2 : IntKind.i64.wrap ((i % rateK k : Nat) : Int) = ((i % rateK k : Nat) : Int) := by rw [IntWalk.i64_in _ (by omega)]
      have HNX := Lib.hid (show allK k l (i + 1) = allK k l i ++ [byteN (permN s (i / rateK k)) (i % rateK k)] from by rw [HAL.out, HAL.out, tell_succ])
      have HRS := Lib.hid (rhoN_succ (rateK k) i)
      have HBO := Lib.hid (fun w => byteOf_any (permN s (i / rateK k)) (i % rateK k) (permN_good HSE.out _) hrm w)
      generalize i / rateK k = q at *
      generalize i % rateK k = rm at *
      generalize rhoN (rateK k) i = ro at *
      go_wp2_with fail
      go_loopw [] (fun wr => ∃ c' : Nat, c' ≤ q ∧ wr.ownsRow w.heap.size 5 1 V i (bytesV (allK k l i)) ∧ Blk wr g 72 (rsV (.int .i64 (k : Nat)) (.slice A m c) (.bool true) (.int .i64 i) (permN s c') (.int .i64 (c' : Nat))) ∧ w.grownBy wr (some g)) (fun wr => q - ratesAt g wr)
      case atStart => exact ⟨ro, hirl, HO.out, HBL.out, HGR.out⟩
      case round =>
        clear HO HBL HGR hirl
        obtain ⟨c', hcq, ho, hbl, hgr⟩ := hrel
        have HO := Lib.hid ho
        have HBL := Lib.hid hbl
        have HGR := Lib.hid hgr
        clear ho hbl hgr
        have hs := permN_good HSE.out c'
        have hcn := rs_n HBL.out
        have hcr := rs_rates HBL.out hs.1
        by_cases hq2 : c' < q
        · have hq2i : (c' : Int) < (q : Int) := by omega
          go_wp2_with fail
          refine wp_region_still_tail 10 (by kernel_rfl) (by kernel_rfl) ?_
          change wpStill _ _ wr.drew _ _ _
          simp only [List.take_succ_cons, List.take_zero, List.drop_succ_cons, List.drop_zero]
          iterate 10 still_step
          refine wpStill_nil ?_
          change wpList _ _ _ _ _ wr.drew
          have HR := Lib.hid (rs_words HBL.out)
          have HP := Lib.hid (refPermute_any _ wr.drew hs)
          have HL := Lib.hid hs.1
          have hs1 := permN_good HSE.out (c' + 1)
          have HPG := Lib.hid hs1.1
          have HPP := Lib.hid (show perm (permN s c') = permN s (c' + 1) from rfl)
          rw [HPP.out] at HP
          clear hs hs1 HPP
          obtain ⟨s1, hs1e⟩ : ∃ s1, permN s (c' + 1) = s1 := ⟨_, rfl⟩
          rw [hs1e] at HP HPG
          have HS1E := Lib.hid hs1e
          clear hs1e
          generalize permN s c' = sc at *
          go_wp2_with (refine wpList_load_mid rfl 23 (.tmp 50) rfl g 4 rfl (natsV .u64 sc) _ HR.out Tryd.underlying23 rfl (by rw [info23, natsV_length, HL.out]) ?_)
          refine HP.out.mono ?_
          rintro e w3 ⟨rfl, hb⟩
          have HB3 := Lib.hid (Blk.below' (HBL.out.drew) hb)
          have HO3 := Lib.hid (own_below HO.out.drew hb)
          have HT := Lib.hid (rs_there HB3.out HL.out 4 (natsV .u64 s1).toArray.size (by rw [size_nats, HPG.out]; decide))
          have HB4 := Lib.hid (rs_setWords (s' := s1) HB3.out (by rw [HL.out, HPG.out]))
          have HG4 := Lib.hid (grown_setCells g (natsV .u64 s1) 4 w3)
          have HO4 := Lib.hid (HO3.out.kept HG4.out (.inr (fun e => by have := (HO3.out.lt g e).1; omega)))
          have HG5 := Lib.hid (grown_trans (grown_trans (grown_drewN HGR.out 1) (grown_below hb (some g))) HG4.out)
          have hcr2 := rs_rates HB4.out HPG.out
          have hf2 := HB4.out.free 29
          have HB5 := Lib.hid (rs_setRates HB4.out HPG.out (.int .i64 ((c' + 1 : Nat) : Int)))
          have HG6 := Lib.hid (grown_setCell (w3.setCells g 4 (natsV .u64 s1)) ⟨g, 29, none⟩ (.int .i64 ((c' + 1 : Nat) : Int)))
          have HO5 := Lib.hid (HO4.out.kept HG6.out (.inr (fun e => by have := (HO3.out.lt g e).1; omega)))
          have HM := Lib.hid (ratesAt_is HBL.out HL.out)
          have HM5 := Lib.hid (ratesAt_is HB5.out HPG.out)
          clear HBL HO HR HP hb HB3
          go_wp2_with (refine wpList_store_mid rfl 23 (.tmp 54) (.tmp 52) rfl g 4 (natsV .u64 s1).toArray rfl rfl HT.out (by rw [info23, size_nats, HPG.out]) (all_nats _ _) ?_)
          go_roundw
          case rel =>
            refine ⟨c' + 1, hq2, HO5.out, ?_, grown_trans HG5.out HG6.out⟩
            rw [HS1E.out]; exact HB5.out
          case measure =>
            rw [HM.out]
            exact Nat.lt_of_le_of_lt (Nat.le_of_eq (congrArg (fun z => q - z) HM5.out)) (show q - (c' + 1) < q - c' by omega)
        · obtain rfl : c' = q := by omega
          go_wp2_with fail
          refine wp_region_still_tail 10 (by kernel_rfl) (by kernel_rfl) ?_
          change wpStill _ _ wr.drew _ _ _
          simp only [List.take_succ_cons, List.take_zero, List.drop_succ_cons, List.drop_zero]
          iterate 10 still_step
          refine wpStill_nil ?_
          change wpList _ _ _ _ _ wr.drew
          have HR := Lib.hid (rs_words HBL.out)
          have HL := Lib.hid hs.1
          have hby : byteN (permN s c') rm < 256 := Nat.mod_lt _ (by decide)
          clear hs
          obtain ⟨sc, hsc⟩ : ∃ sc, permN s c' = sc := ⟨_, rfl⟩
          have HSC := Lib.hid hsc
          rw [hsc] at HBL HR HL HNX HBO hby
          clear hsc
          generalize byteN sc rm = y at *
          go_upto_region 12 with (fail)
          have hu23 := Tryd.underlying23
          have hi23 : (Tryd.prog.info? 23).map (·.size) = some (natsV .u64 sc).length := by rw [info23, natsV_length, HL.out]
          have hcn' := hcn
          have HCN := Lib.hid hcn
          go_region_held3 (fun w' => w'.rangeAt g 4 (natsV .u64 sc) ∧ w'.cell? ⟨g, 3, none⟩ = some (.int .i64 (i : Nat)))
            (first | exact ⟨HR.out, HCN.out⟩ | exact ⟨rs_words HB4.out, rs_n HB4.out⟩ | exact ⟨rs_words HB3a.out, rs_n HB3a.out⟩ | exact ⟨rs_words HB3.out, rs_n HB3.out⟩)
            (first
              | (refine step_append_bytes rfl (.tmp 62) (.tmp 74) rfl w.heap.size V i (allK k l i) rfl HO3.out w3.heap.size 0 1 1 [y] rfl HN3.out (by omega) hsz3 ?_; intro v' w4 h1 h2; have HO4 := Lib.hid h1; have HG4 := Lib.hid h2; have HB4 := Lib.hid (Blk.grown HB3a.out h2 (fun e => by have := (HO.out.lt g e.symm).1; omega)); clear h1 h2)
              | (go_simp; go_at_call 46; refine (HBO.out _).mono ?_; rintro e w3 ⟨rfl, hb⟩; have HB := Lib.hid hb; have HB3 := Lib.hid (Blk.below' (HBL.out.drew.drew) hb); have HB3a := Lib.hid (HB3.out.alloc (.cells #[.int .u8 (y : Nat)] 5)); have HO3 := Lib.hid (World.ownsRow.alloc (own_below HO.out.drew.drew hb) (.cells #[.int .u8 (y : Nat)] 5)); have HN3 := Lib.hid (bin_one w3 y hby); have hsz3 : w.heap.size ≤ (w3.alloc (.cells #[.int .u8 (y : Nat)] 5)).heap.size := (by have h1 := hb.size; have h2 := HGR.out.size; simp at h1 ⊢; omega); clear hb))
          all_goals
            have hcn4 := rs_n HB4.out
            have hf4 := HB4.out.free 3
            have HB5 := Lib.hid (rs_setN HB4.out (.int .i64 ((i + 1 : Nat) : Int)))
            have HG5 := Lib.hid (grown_setCell w4 ⟨g, 3, none⟩ (.int .i64 ((i + 1 : Nat) : Int)))
            have HO5 := Lib.hid (HO4.out.kept HG5.out (.inr (fun e => by have := (HO4.out.lt g e).1; omega)))
            have HG6 := Lib.hid (grown_trans (grown_own (grown_trans (grown_drew (grown_drew HGR.out)) (grown_below (HB.out.alloc HB.out.size (.cells #[.int .u8 (y : Nat)] 5)) (some g))) HG4.out (fun j hj => (HO.out.lt j hj).1)) HG5.out)
            clear HR HL HBL HO HGR HB HB3 HB3a HO3 HN3 HO4 HG4 HB4 HCN HBO hi23 hu23
            go_wp2_with fail
            go_roundw
            case rel => exact ⟨i + 1, _, rfl, by go_num, by omega, by rw [HNX.out]; exact HO5.out, by rw [HRS.out, HSC.out]; exact HB5.out, HG6.out⟩
            case measure => simp [intOf]; omega
    · obtain rfl : i = n := by omega
      go_wp2_with fail
      go_ret
      exact ⟨V, rfl, HO.out, HGR.out⟩
end Go.Proofs.YtidnlaibfkjgpaaDoor
