/- The document's Read of a sponge that has given bytes. No condition. -/
import Derived.Test.YtidnlaibfkjgpaaDoorKRd
namespace Go.Proofs.YtidnlaibfkjgpaaDoor
open Go.RowKit
set_option linter.unusedVariables false
/-- the bytes from place b on -/
def partK (k : Nat) (s : List Nat) (b n : Nat) : List Nat := tell (fun i => byteN (permN s ((b + i) / rateK k)) ((b + i) % rateK k)) n
/-- what Read answers, the sponge besides -/
def MoreIs (g n : Nat) (l : List Nat) (cs : List Value) (w : World) (e : Ending) (w' : World) : Prop := ∃ v, e = .returned v ∧ w'.ownsRow w.heap.size 5 1 v n (bytesV l) ∧ Blk w' g 72 cs ∧ w.grownBy w' (some g)
/-- a sponge that has given b bytes -/
def rsG (K I : Value) (k : Nat) (s : List Nat) (b : Nat) : List Value := rsV K I (.bool true) (.int .i64 (b : Nat)) (permN s (rhoN (rateK k) b)) (.int .i64 (rhoN (rateK k) b : Nat))
set_option maxRecDepth 100000 in
set_option maxHeartbeats 1600000 in
theorem read_more (g k n b0 : Nat) (I : Value) (s : List Nat) (w : World) (hk : IsKind k) (hs0 : Good s) (hn : b0 + n ≤ 140737488351232) (h : Blk w g 72 (rsG (.int .i64 (k : Nat)) I k s b0)) :
    Calls Tryd.prog 37 #[.pointer (some ⟨g, 0, none⟩), .int .i64 (n : Nat)] w (MoreIs g n (partK k s b0 n) (rsG (.int .i64 (k : Nat)) I k s (b0 + n)) w) := by
  have hr := rateK_le hk
  have HRK := Lib.hid (fun w => refKind_any k hk w)
  have HB2 := Lib.hid (show Blk w g 72 (rsV (.int .i64 (k : Nat)) I (.bool true) (.int .i64 (b0 : Nat)) (permN s (rhoN (rateK k) b0)) (.int .i64 (rhoN (rateK k) b0 : Nat))) from h)
  have h0 := rs_kind HB2.out
  have h2 := rs_out HB2.out
  have hgw := h.lt
  have hf := HB2.out.free 2
  have HSE := Lib.hid hs0
  clear hk h hs0
  go_enter Tryd.func37, Tryd.ntmps37
  go_wp2_with fail
  refine (HRK.out _).mono ?_
  rintro e w' ⟨rfl, rfl⟩
  go_wp2_with fail
  go_loopw [9, 10] (fun v9 v10 wr => ∃ (i : Nat) (V : Value), V = v9 ∧ v10 = .int .i64 i ∧ i ≤ n ∧ wr.ownsRow w.heap.size 5 1 v9 i (bytesV (partK k s b0 i)) ∧ Blk wr g 72 (rsV (.int .i64 (k : Nat)) I (.bool true) (.int .i64 (b0 + i : Nat)) (permN s (rhoN (rateK k) (b0 + i))) (.int .i64 (rhoN (rateK k) (b0 + i) : Nat))) ∧ w.grownBy wr (some g)) (fun _ v10 _ => n - (intOf v10).toNat)
  case atStart =>
    exact ⟨0, _, rfl, rfl, by omega, ⟨rfl, .inl ⟨rfl, rfl⟩⟩, rs_setOut HB2.out (.bool true), grown_setCell w ⟨g, 2, none⟩ (.bool true)⟩
  case round =>
    clear HB2 hf h0 h2
    obtain ⟨i, V, hV, rfl, hin, ho, hbl, hgr⟩ := hrel
    subst hV
    have HO := Lib.hid ho
    obtain ⟨bi, hbi⟩ : ∃ bi, b0 + i = bi := ⟨_, rfl⟩
    rw [hbi] at hbl
    have HBI := Lib.hid hbi
    have hbn : bi ≤ 140737488351232 := by omega
    have HBL := Lib.hid hbl
    have HGR := Lib.hid hgr
    clear ho hbl hgr hbi
    by_cases hq : i < n
    · have hqi : (i : Int) < (n : Int) := by omega
      have hirl := rhoN_le (r := rateK k) (i := bi) (by omega)
      have hr0 : 0 < rateK k := by omega
      have hrz : rateK k ≠ 0 := by omega
      have m1 : (bi : Int).tdiv (rateK k : Int) = ((bi / rateK k : Nat) : Int) := by rw [Int.tdiv_eq_ediv_of_nonneg (by omega), ← Int.natCast_ediv]
      have m1' : (bi : Int) / (rateK k : Int) = ((bi / rateK k : Nat) : Int) := (Int.natCast_ediv _ _).symm
      have m2 : (bi : Int).tmod (rateK k : Int) = ((bi % rateK k : Nat) : Int) := by rw [Int.tmod_eq_emod_of_nonneg (by omega), ← Int.natCast_emod]
      have m2' : (bi : Int) % (rateK k : Int) = ((bi % rateK k : Nat) : Int) := (Int.natCast_emod _ _).symm
      have hqb : bi / rateK k ≤ bi := Nat.div_le_self _ _
      have hrm : bi % rateK k < 200 := by have := Nat.mod_lt bi hr0; omega
      have w1 : IntKind.i64.wrap ((bi / rateK k : Nat) : Int) = ((bi / rateK k : Nat) : Int) := by rw [IntWalk.i64_in _ (by omega)]
      have w2 : IntKind.i64.wrap ((bi % rateK k : Nat) : Int) = ((bi % rateK k : Nat) : Int) := by rw [IntWalk.i64_in _ (by omega)]
      have HNX := Lib.hid (show partK k s b0 (i + 1) = partK k s b0 i ++ [byteN (permN s (bi / rateK k)) (bi % rateK k)] from by unfold partK; rw [tell_succ, HBI.out])
      have HRS := Lib.hid (rhoN_succ (rateK k) bi)
      have HBO := Lib.hid (fun w => byteOf_any (permN s (bi / rateK k)) (bi % rateK k) (permN_good HSE.out _) hrm w)
      generalize bi / rateK k = q at *
      generalize bi % rateK k = rm at *
      generalize rhoN (rateK k) bi = ro at *
      go_wp2_with fail
      go_loopw [] (fun wr => ∃ c' : Nat, c' ≤ q ∧ wr.ownsRow w.heap.size 5 1 V i (bytesV (partK k s b0 i)) ∧ Blk wr g 72 (rsV (.int .i64 (k : Nat)) I (.bool true) (.int .i64 bi) (permN s c') (.int .i64 (c' : Nat))) ∧ w.grownBy wr (some g)) (fun wr => q - ratesAt g wr)
      case atStart => exact ⟨ro, hirl, HO.out, HBL.out, HGR.out⟩
      case round =>
        clear HO HBL HGR hirl
        obtain ⟨c', hcq, ho, hbl, hgr⟩ := hrel
        have HO := Lib.hid ho
        have HBL := Lib.hid hbl
        have HGR := Lib.hid hgr
        clear ho hbl hgr
        have hs := permN_good HSE.out c'
        have hcn := rs_n HBL.out
        have hcr := rs_rates HBL.out hs.1
        by_cases hq2 : c' < q
        · have hq2i : (c' : Int) < (q : Int) := by omega
          go_wp2_with fail
          refine wp_region_still_tail 10 (by kernel_rfl) (by kernel_rfl) ?_
          change wpStill _ _ wr.drew _ _ _
          simp only [List.take_succ_cons, List.take_zero, List.drop_succ_cons, List.drop_zero]
          iterate 10 still_step
          refine wpStill_nil ?_
          change wpList _ _ _ _ _ wr.drew
          have HR := Lib.hid (rs_words HBL.out)
          have HP := Lib.hid (refPermute_any _ wr.drew hs)
          have HL := Lib.hid hs.1
          have hs1 := permN_good HSE.out (c' + 1)
          have HPG := Lib.hid hs1.1
          have HPP := Lib.hid (show perm (permN s c') = permN s (c' + 1) from rfl)
          rw [HPP.out] at HP
          clear hs hs1 HPP
          obtain ⟨s1, hs1e⟩ : ∃ s1, permN s (c' + 1) = s1 := ⟨_, rfl⟩
          rw [hs1e] at HP HPG
          have HS1E := Lib.hid hs1e
          clear hs1e
          generalize permN s c' = sc at *
          go_wp2_with (refine wpList_load_mid rfl 23 (.tmp 50) rfl g 4 rfl (natsV .u64 sc) _ HR.out Tryd.underlying23 rfl (by rw [info23, natsV_length, HL.out]) ?_)
          refine HP.out.mono ?_
          rintro e w3 ⟨rfl, hb⟩
          have HB3 := Lib.hid (Blk.below' (HBL.out.drew) hb)
          have HO3 := Lib.hid (own_below HO.out.drew hb)
          have HT := Lib.hid (rs_there HB3.out HL.out 4 (natsV .u64 s1).toArray.size (by rw [size_nats, HPG.out]; decide))
          have HB4 := Lib.hid (rs_setWords (s' := s1) HB3.out (by rw [HL.out, HPG.out]))
          have HG4 := Lib.hid (grown_setCells g (natsV .u64 s1) 4 w3)
          have HO4 := Lib.hid (HO3.out.kept HG4.out (.inr (fun e => by have := (HO3.out.lt g e).1; omega)))
          have HG5 := Lib.hid (grown_trans (grown_trans (grown_drewN HGR.out 1) (grown_below hb (some g))) HG4.out)
          have hcr2 := rs_rates HB4.out HPG.out
          have hf2 := HB4.out.free 29
          have HB5 := Lib.hid (rs_setRates HB4.out HPG.out (.int .i64 ((c' + 1 : Nat) : Int)))
          have HG6 := Lib.hid (grown_setCell (w3.setCells g 4 (natsV .u64 s1)) ⟨g, 29, none⟩ (.int .i64 ((c' + 1 : Nat) : Int)))
          have HO5 := Lib.hid (HO4.out.kept HG6.out (.inr (fun e => by have := (HO3.out.lt g e).1; omega)))
          have HM := Lib.hid (ratesAt_is HBL.out HL.out)
          have HM5 := Lib.hid (ratesAt_is HB5.out HPG.out)
          clear HBL HO HR HP hb HB3
          go_wp2_with (refine wpList_store_mid rfl 23 (.tmp 54) (.tmp 52) rfl g 4 (natsV .u64 s1).toArray rfl rfl HT.out (by rw [info23, size_nats, HPG.out]) (all_nats _ _) ?_)
          go_roundw
          case rel =>
            refine ⟨c' + 1, hq2, HO5.out, ?_, grown_trans HG5.out HG6.out⟩
            rw [HS1E.out]; exact HB5.out
          case measure =>
            rw [HM.out]
            exact Nat.lt_of_le_of_lt (Nat.le_of_eq (congrArg (fun z => q - z) HM5.out)) (show q - (c' + 1) < q - c' by omega)
        · obtain rfl : c' = q := by omega
          go_wp2_with fail
          refine wp_region_still_tail 10 (by kernel_rfl) (by kernel_rfl) ?_
          change wpStill _ _ wr.drew _ _ _
          simp only [List.take_succ_cons, List.take_zero, List.drop_succ_cons, List.drop_zero]
          iterate 10 still_step
          refine wpStill_nil ?_
          change wpList _ _ _ _ _ wr.drew
          have HR := Lib.hid (rs_words HBL.out)
          have HL := Lib.hid hs.1
          have hby : byteN (permN s c') rm < 256 := Nat.mod_lt _ (by decide)
          clear hs
          obtain ⟨sc, hsc⟩ : ∃ sc, permN s c' = sc := ⟨_, rfl⟩
          have HSC := Lib.hid hsc
          rw [hsc] at HBL HR HL HNX HBO hby
          clear hsc
          generalize byteN sc rm = y at *
          go_upto_region 12 with (fail)
          have hu23 := Tryd.underlying23
          have hi23 : (Tryd.prog.info? 23).map (·.size) = some (natsV .u64 sc).length := by rw [info23, natsV_length, HL.out]
          have hcn' := hcn
          have HCN := Lib.hid hcn
          go_region_held3 (fun w' => w'.rangeAt g 4 (natsV .u64 sc) ∧ w'.cell? ⟨g, 3, none⟩ = some (.int .i64 (bi : Nat)))
            (first | exact ⟨HR.out, HCN.out⟩ | exact ⟨rs_words HB4.out, rs_n HB4.out⟩ | exact ⟨rs_words HB3a.out, rs_n HB3a.out⟩ | exact ⟨rs_words HB3.out, rs_n HB3.out⟩)
            (first
              | (refine step_append_bytes rfl (.tmp 62) (.tmp 74) rfl w.heap.size V i (partK k s b0 i) rfl HO3.out w3.heap.size 0 1 1 [y] rfl HN3.out (by omega) hsz3 ?_; intro v' w4 h1 h2; have HO4 := Lib.hid h1; have HG4 := Lib.hid h2; have HB4 := Lib.hid (Blk.grown HB3a.out h2 (fun e => by have := (HO.out.lt g e.symm).1; omega)); clear h1 h2)
              | (go_simp; go_at_call 46; refine (HBO.out _).mono ?_; rintro e w3 ⟨rfl, hb⟩; have HB := Lib.hid hb; have HB3 := Lib.hid (Blk.below' (HBL.out.drew.drew) hb); have HB3a := Lib.hid (HB3.out.alloc (.cells #[.int .u8 (y : Nat)] 5)); have HO3 := Lib.hid (World.ownsRow.alloc (own_below HO.out.drew.drew hb) (.cells #[.int .u8 (y : Nat)] 5)); have HN3 := Lib.hid (bin_one w3 y hby); have hsz3 : w.heap.size ≤ (w3.alloc (.cells #[.int .u8 (y : Nat)] 5)).heap.size := (by have h1 := hb.size; have h2 := HGR.out.size; simp at h1 ⊢; omega); clear hb))
          all_goals
            have hcn4 := rs_n HB4.out
            have hf4 := HB4.out.free 3
            have HB5 := Lib.hid (rs_setN HB4.out (.int .i64 ((bi + 1 : Nat) : Int)))
            have HG5 := Lib.hid (grown_setCell w4 ⟨g, 3, none⟩ (.int .i64 ((bi + 1 : Nat) : Int)))
            have HO5 := Lib.hid (HO4.out.kept HG5.out (.inr (fun e => by have := (HO4.out.lt g e).1; omega)))
            have HG6 := Lib.hid (grown_trans (grown_own (grown_trans (grown_drew (grown_drew HGR.out)) (grown_below (HB.out.alloc HB.out.size (.cells #[.int .u8 (y : Nat)] 5)) (some g))) HG4.out (fun j hj => (HO.out.lt j hj).1)) HG5.out)
            clear HR HL HBL HO HGR HB HB3 HB3a HO3 HN3 HO4 HG4 HB4 HCN HBO hi23 hu23
            go_wp2_with fail
            go_roundw
            case rel => exact ⟨i + 1, _, rfl, by go_num, by omega, by rw [HNX.out]; exact HO5.out, by rw [← Nat.add_assoc, HBI.out, HRS.out, HSC.out]; exact HB5.out, HG6.out⟩
            case measure => simp [intOf]; omega
    · obtain rfl : i = n := by omega
      go_wp2_with fail
      go_ret
      exact ⟨V, rfl, HO.out, by unfold rsG; rw [HBI.out]; exact HBL.out, HGR.out⟩
end Go.Proofs.YtidnlaibfkjgpaaDoor
