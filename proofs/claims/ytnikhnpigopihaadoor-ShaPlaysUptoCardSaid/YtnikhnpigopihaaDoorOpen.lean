/- A hash opened from bytes that are a state. Condition: they are one. -/
import Derived.Test.YtnikhnpigopihaaDoorTake
import Derived.Deep.RegionLaw
import Derived.StillTailTactics
import Derived.Deep.CutRange
namespace Go.Proofs.YtnikhnpigopihaaDoor
open Go.RowKit
set_option linter.unusedVariables false
theorem wpStill_build {P : Program} {ops : Array Oper} {rest : List Oper} {o : Oper} {a : Act} {w : World} {Q : Act → Prop} (hg : o.guard = none) (t : TypeId) (parts : Array (Nat × Operand)) (ho : o.op = .build t parts)
    (cells : Array Value) (hc : P.built t (parts.map fun (i, x) => (i, a.eval x)).toList = some cells) (h : wpStill P ops w Q rest (a.put o.dst (.agg cells))) : wpStill P ops w Q (o :: rest) a := by
  have hw : Region.wanted o (yielded ops a.tmps) = true := by simp [Region.wanted, hg]
  show if Region.wanted o (yielded ops a.tmps) then o.still P a w (wpStill P ops w Q rest) else wpStill P ops w Q rest (a.put o.dst undef)
  rw [if_pos hw]
  unfold Oper.still execOp
  simp only [ho, Sem.run_bind, run_build w t _ cells hc, Result.andThen_ok]
  exact (Oper.stillUpon_value o a w _ _).symm ▸ h
theorem built72b (k n : Nat) : Tryd.prog.built 72 [(0, .int .u8 (k : Nat)), (1, .int .u64 (n : Nat))] = some (hashV k n (zeros 8) (zeros 128)).toArray := by kernel_rfl
theorem hash_setWord {w : World} {g k n i x : Nat} {s r : List Nat} (h : Blk w g 72 (hashV k n s r)) (hi : i < s.length) : Blk (w.setCell ⟨g, 2 + i, none⟩ (.int .u64 (x : Nat))) g 72 (hashV k n (s.set i x) r) := by
  have h1 := h.set (2 + i) (.int .u64 (x : Nat))
  have e : (hashV k n s r).set (2 + i) (.int .u64 (x : Nat)) = hashV k n (s.set i x) r := by
    unfold hashV
    rw [Nat.add_comm 2 i, List.set_cons_succ, List.set_cons_succ, List.set_append_left _ _ (by rw [natsV_length]; exact hi), natsV_set]
  rw [e] at h1; exact h1
/-- the word at place i of a state's bytes -/
def stW (k : Nat) (L : List Nat) (i : Nat) : Nat := be ((L.drop (9 + i * wB k)).take (wB k))
/-- what 'Open' answers for a state -/
def OpenIs (k n : Nat) (s t : List Nat) (w : World) (e : Ending) (w' : World) : Prop := ∃ g, e = .returned (.tuple #[.pointer (some ⟨g, 0, none⟩), .int .i64 0]) ∧ w.heap.size ≤ g ∧ HashAt w' g k n s t ∧ Below w.heap.size w w'
theorem copyPos {w : World} {a : Option Addr} {m c : Nat} {l : List Nat} (h : BIn w a m c l) : 0 < (natsV .u8 l).length → ∃ ad, a = some ad ∧ ∀ i v, (natsV .u8 l)[i]? = some v → w.cell? (ad.add i) = some v := by
  have := src_cells h m (Nat.le_refl _)
  rwa [List.take_of_length_le (by rw [h.1.1]; exact Nat.le_refl _)] at this
theorem stW_lt (k : Nat) (L : List Nat) (hL : ∀ x ∈ L, x < 256) (i : Nat) : stW k L i < 2 ^ wW k := by
  have h := be_lt ((L.drop (9 + i * wB k)).take (wB k)) (fun x hx => hL x (List.mem_of_mem_drop (List.mem_of_mem_take hx)))
  refine Nat.lt_of_lt_of_le h (Nat.le_trans (Nat.pow_le_pow_right (by decide) (List.length_take_le _ _)) ?_)
  unfold wB wW; split <;> decide
theorem openFin {w : World} {g k n m wb : Nat} {L : List Nat} (hk : IsKind k) (hn : n ≤ 2305843009213693951) (hL : ∀ x ∈ L, x < 256) (hm : m = 9 + 8 * wB k + n % (2 * wW k)) (hwb : wB k = wb) (hg : 2 ≤ g) (hl : L.length = m)
    (h : w.heap[g]? = some (.cells (splice (hashV k n (tell (stW k L) 8) (zeros 128)) 10 (natsV .u8 (L.drop (9 + 8 * wb)))).toArray 72 (0, 0))) : HashAt w g k n (tell (stW k L) 8) (L.drop (9 + 8 * wb)) := by
  have hT : (L.drop (9 + 8 * wb)).length = n % (2 * wW k) := by rw [List.length_drop, hl, hm, hwb]; omega
  have hsz : n % (2 * wW k) < 128 := by
    have h : n % (2 * wW k) < 2 * wW k := Nat.mod_lt _ (by unfold wW; split <;> omega)
    have h2 : 2 * wW k ≤ 128 := by unfold wW; split <;> omega
    omega
  have hTb : ∀ x ∈ L.drop (9 + 8 * wb), x < 256 := fun x hx => hL x (List.mem_of_mem_drop hx)
  have e := hash_splice k n (tell (stW k L) 8) (zeros 128) (L.drop (9 + 8 * wb)) 0 (tell_length _ _)
  rw [Nat.add_zero] at e
  rw [e] at h
  refine ⟨hk, by omega, tell_length _ _, tell_lt _ _ (stW_lt k L hL) _, hT, hg, splice (zeros 128) 0 (L.drop (9 + 8 * wb)), ?_, ?_, ?_, h⟩
  · rw [length_splice _ _ _ (by rw [hT]; simp [zeros]; omega)]; simp [zeros]
  · exact splice_bytes (fun x hx => by rw [List.eq_of_mem_replicate hx]; decide) hTb
  · have := splice_take (r := zeros 128) (l := L.drop (9 + 8 * wb)) (i := 0) (Nat.zero_le _)
    simpa using this
set_option maxRecDepth 100000 in
set_option maxHeartbeats 1600000 in
theorem open_ok (b off m c : Nat) (L : List Nat) (k n : Nat) (w : World) (hb : BIn w (some ⟨b, off, none⟩) m c L) (hk : IsKind k) (hL0 : L.getD 0 0 = k) (hLn : be ((L.drop 1).take 8) = n) (hn : n ≤ 2305843009213693951) (hm : m = 9 + 8 * wB k + n % (2 * wW k)) (hw2 : 2 ≤ w.heap.size) :
    Calls Tryd.prog 24 #[.slice (some ⟨b, off, none⟩) m c] w (OpenIs k n (tell (stW k L) 8) (L.drop (9 + 8 * wB k)) w) := by
  have hm9 : 9 ≤ m := by omega
  have hc1 := hb.2.1
  have hc2 := hb.2.2.1
  unfold maxLen at hc2
  obtain ⟨b', o', he, hcell⟩ := hb.1.2.2.2.resolve_left (by omega)
  injection he with he
  injection he with e1 e2
  subst e1 e2
  have hc0 := hcell 0 (by omega)
  rw [hL0, Nat.add_zero] at hc0
  have hdb := (Below.refl w.heap.size w).drew
  have hnum := number_any b (off + 1) (m - 1) (c - 1) (L.drop 1) 8 w.drew ((bin_tail (f := 1) hb (by omega)).below hdb) (by omega) (by omega)
  rw [hLn] at hnum
  have HNUM := Lib.hid (flipC hnum)
  have HBD := Lib.hid (built72b k n)
  have HB := Lib.hid hb
  clear hnum hcell hL0 hLn
  have h0m : 0 < m := by omega
  have h1m : (1 : Int) ≤ (m : Int) := by omega
  have h1c : 1 ≤ c := by omega
  have hc1n : ¬ c = 1 := by omega
  have HM := Lib.hid hm
  clear hm
  have hm9I : (9 : Int) ≤ (m : Int) := by omega
  have hm9b : decide ((m : Int) < 9) = false := by simp; omega
  go_enter Tryd.func24, Tryd.ntmps24
  go_wp2_with fail
  refine wp_region_still_tail 7 (by kernel_rfl) (by kernel_rfl) ?_
  change wpStill _ _ w.drew _ _ _
  simp only [List.take_succ_cons, List.take_zero, List.drop_succ_cons, List.drop_zero]
  still_step
  still_step
  still_step
  still_step
  still_step
  still_call HNUM.out
  refine wpStill_build rfl 72 _ rfl (hashV k n (zeros 8) (zeros 128)).toArray ?hb ?_
  case hb => simp only [List.map_toArray, List.map_cons, List.map_nil]; exact HBD.out
  refine wpStill_nil ?_
  change wpList _ _ _ _ _ w.drew
  have hbk : 1 ≤ k ∧ k ≤ 3 := by rcases hk with rfl | rfl | rfl <;> omega
  obtain ⟨W1, hW1⟩ : ∃ W1 : World, (w.alloc (.cells (hashV k n (zeros 8) (zeros 128)).toArray 72)).drew = W1 := ⟨_, rfl⟩
  have blk : Blk W1 w.heap.size 72 (hashV k n (zeros 8) (zeros 128)) := by rw [← hW1]; exact Blk.new w 72 _
  have hbel : Below w.heap.size w W1 := by rw [← hW1]; exact ((Below.refl _ w).alloc (Nat.le_refl _) _).drew
  go_upto_region 4 with (fail)
  have hkc := hash_kind blk
  have htc := hash_taken blk
  have BLK := Lib.hid blk
  have HWS := Lib.hid (fun w => wordSize_any k hk w)
  have hHD := held_any w.heap.size k n (zeros 8) (zeros 128) hk (by omega) W1 blk
  have hW : 16 * wB k = 2 * wW k := by unfold wW wB; split <;> rfl
  rw [hW] at hHD
  have hwb : wB k ≤ 8 ∧ 4 ≤ wB k := by unfold wB; split <;> omega
  have hhd : n % (2 * wW k) < 128 := by
    have h : n % (2 * wW k) < 2 * wW k := Nat.mod_lt _ (by unfold wW; split <;> omega)
    have h2 : 2 * wW k ≤ 128 := by unfold wW; split <;> omega
    omega
  have HHD := Lib.hid hHD
  have HM' := HM.out
  have hk1 : decide ((k : Int) < 1) = false := by simp; omega
  have hk3 : decide ((3 : Int) < (k : Int)) = false := by simp; omega
  have hn2 : decide ((2305843009213693951 : Int) < (n : Int)) = false := by simp; omega
  have hHDm : n % (2 * wW k) = m - (9 + 8 * wB k) := by omega
  have hmle : 9 + 8 * wB k ≤ m := by omega
  have hdlt : m - (9 + 8 * wB k) < 128 := by rw [← hHDm]; exact hhd
  have HM2 := Lib.hid HM'
  clear hW1 blk hHD hW HM'
  rw [hHDm] at HHD
  have HSTW := Lib.hid (show stW k L = fun i => be ((L.drop (9 + i * wB k)).take (wB k)) from rfl)
  obtain ⟨wb, hwbe⟩ : ∃ wb, wB k = wb := ⟨_, rfl⟩
  rw [hwbe] at HWS HHD hwb hmle hdlt HSTW ⊢
  clear hHDm
  have hne2 : ((m : Int) == 9 + 8 * (wb : Int) + ((m - (9 + 8 * wb) : Nat) : Int)) = true := by simp; omega
  have hne : ((m : Int) != 9 + 8 * (wb : Int) + ((m - (9 + 8 * wb) : Nat) : Int)) = false := by simp; omega
  obtain ⟨hd, hhde⟩ : ∃ hd, m - (9 + 8 * wb) = hd := ⟨_, rfl⟩
  rw [hhde] at HHD hne hne2 hdlt
  have HHDE := Lib.hid hhde
  clear hhde hhd
  go_wp2_with fail
  refine (HWS.out _).mono ?_
  rintro e w' ⟨rfl, rfl⟩
  go_wp2_with fail
  refine HHD.out.mono ?_
  rintro e w' ⟨rfl, q, rfl⟩
  go_wp2_with fail
  clear hk1 hk3 hn2 hne hne2 hm9b hm9I
  have HS := Lib.hid (show stW k L = fun i => be ((L.drop (9 + i * wb)).take wb) from HSTW.out)
  go_loopw [53] (fun i wr => ∃ t : Nat, t ≤ 8 ∧ i = .int .i64 t ∧ Blk wr w.heap.size 72 (hashV k n (tell (stW k L) t ++ zeros (8 - t)) (zeros 128)) ∧ Below w.heap.size w wr) (fun i _ => 8 - (intOf i).toNat)
  case atStart => exact ⟨0, by omega, rfl, BLK.out.drewN q, below_drewN hbel _⟩
  case round =>
    clear hbel BLK HHD hkc htc
    obtain ⟨t, ht, rfl, k1, hbel⟩ := hrel
    have K1 := Lib.hid k1
    clear k1
    by_cases h8 : t < 8
    · have hp : 9 + t * wb + wb ≤ m := by
        have : t * wb + wb ≤ 8 * wb := by rw [← Nat.succ_mul]; exact Nat.mul_le_mul_right _ h8
        omega
      have hdr := (Below.refl wr.heap.size wr).drew
      have HX := Lib.hid (number_any b (off + (9 + t * wb)) (m - (9 + t * wb)) (c - (9 + t * wb)) (L.drop (9 + t * wb)) wb wr.drew (((bin_tail (f := 9 + t * wb) HB.out (by omega)).below hbel).below hdr) (by omega) (by omega))
      have HV := Lib.hid (show be ((L.drop (9 + t * wb)).take wb) = stW k L t from by rw [HS.out])
      have hlen8 : t < (tell (stW k L) t ++ zeros (8 - t)).length := by simp [tell_length, zeros]; omega
      have HFILL := Lib.hid (fill_tell (stW k L) 8 t h8)
      have hfree := K1.out.free (2 + t)
      have hcell := K1.out.cell (2 + t)
      have hcs : (hashV k n (tell (stW k L) t ++ zeros (8 - t)) (zeros 128))[2 + t]? = some (.int .u64 0) := by
        have := hash_words K1.out t (.int .u64 0) (by
          rw [natsV_get _ _ _ hlen8]
          have e : (tell (stW k L) t ++ zeros (8 - t)).getD t 0 = 0 := by
            simp only [List.getD_eq_getElem?_getD]
            rw [List.getElem?_append_right (by rw [tell_length]; exact Nat.le_refl _), tell_length, Nat.sub_self]
            obtain ⟨j, hj⟩ : ∃ j, 8 - t = j + 1 := ⟨7 - t, by omega⟩
            rw [hj]; rfl
          rw [e]; rfl)
        rw [← K1.out.cell]; exact this
      rw [hcs] at hcell
      have HK2 := Lib.hid (hash_setWord (x := stW k L t) K1.out hlen8)
      rw [HFILL.out] at HK2
      have e1 : IntKind.i64.wrap ((t * wb : Nat) : Int) = ((t * wb : Nat) : Int) := IntWalk.i64_in _ (by omega)
      have e1' : (t : Int) * (wb : Int) = ((t * wb : Nat) : Int) := (Int.natCast_mul _ _).symm
      have e2 : IntKind.i64.wrap ((9 + t * wb : Nat) : Int) = ((9 + t * wb : Nat) : Int) := IntWalk.i64_in _ (by omega)
      have e2' : 9 + ((t * wb : Nat) : Int) = ((9 + t * wb : Nat) : Int) := by omega
      clear hcs hlen8 hdr
      rw [HV.out] at HX
      generalize 9 + t * wb = qq at *
      generalize t * wb = pp at *
      generalize stW k L t = x at *
      have hq1 : (qq : Int) ≤ (m : Int) := by omega
      have hq2 : ¬ c = qq := by omega
      have hti : (t : Int) < 8 := by omega
      have hq0 : (0 : Int) ≤ (qq : Int) := by omega
      go_wp2_with fail
      go_region_with (go_at_call 40; refine HX.out.mono ?_; rintro e w' ⟨rfl, rfl⟩)
      all_goals
        have hb2 := hbel.setCell (p := ⟨w.heap.size, 2 + t, none⟩) (Nat.le_refl _) (.int .u64 (x : Nat))
        clear e1 e1' e2 e2' hcell hfree
        go_wp2_with fail
        go_roundw
        case rel => exact ⟨t + 1, by omega, by go_num, HK2.out, hb2.drew⟩
        case measure => simp [intOf]; omega
    · obtain rfl : t = 8 := by omega
      rw [show ((8 : Nat) : Int) = 8 from rfl]
      have K8 := Lib.hid (show Blk wr w.heap.size 72 (hashV k n (tell (stW k L) 8) (zeros 128)) from by have := K1.out; simpa [zeros] using this)
      have hTl : (L.drop (9 + 8 * wb)).length = m - (9 + 8 * wb) := by rw [List.length_drop, HB.out.1.1]
      have hTb : ∀ x ∈ L.drop (9 + 8 * wb), x < 256 := fun x hx => HB.out.1.2.2.1 x (List.mem_of_mem_drop hx)
      have hsrc : ∀ A, A = some (⟨b, off, none⟩ : Addr) ∧ m - (9 + 8 * wb) = 0 ∨ A = some ⟨b, off + (9 + 8 * wb), none⟩ → BIn wr A (m - (9 + 8 * wb)) (c - (9 + 8 * wb)) (L.drop (9 + 8 * wb)) := fun A hA => bin_drop (HB.out.below hbel) hmle (by omega) A hA
      have HSRC := Lib.hid hsrc
      have HFIN := Lib.hid (fun (w2 : World) (h : w2.heap[w.heap.size]? = some (.cells (splice (hashV k n (tell (stW k L) 8) (zeros 128)) 10 (natsV .u8 (L.drop (9 + 8 * wb)))).toArray 72 (0, 0))) =>
        openFin (w := w2) (g := w.heap.size) (wb := wb) hk hn HB.out.1.2.2.1 HM2.out hwbe hw2 HB.out.1.1 h)
      have hTlen : (natsV .u8 (L.drop (9 + 8 * wb))).length = m - (9 + 8 * wb) := by rw [natsV_length, hTl]
      have HTL := Lib.hid hTlen
      have HMIN := Lib.hid (show (natsV .u8 (L.drop (9 + 8 * wb))).length = Nat.min (m - (9 + 8 * wb)) 128 from by rw [hTlen]; exact (Nat.min_eq_left (by have := HHDE.out; omega)).symm)
      have HFIT := Lib.hid (show 10 + (natsV .u8 (L.drop (9 + 8 * wb))).length ≤ (hashV k n (tell (stW k L) 8) (zeros 128)).length from by
        rw [hTlen]; simp [hashV, natsV_length, tell_length, zeros]; have := HHDE.out; omega)
      clear hTl hTb hsrc hTlen K1
      have hbI : 9 + 8 * (wb : Int) ≤ (m : Int) := by omega
      have hb0 : (0 : Int) ≤ 9 + 8 * (wb : Int) := by omega
      have HTO := Lib.hid (show ((9 : Int) + 8 * (wb : Int)).toNat = 9 + 8 * wb from by omega)
      by_cases hcc : c = 9 + 8 * wb
      · have HS2 := Lib.hid (HSRC.out (some ⟨b, off, none⟩) (.inl ⟨rfl, by omega⟩))
        have HPOS := Lib.hid (copyPos (w := wr.drew) (HS2.out.below (Below.refl wr.heap.size wr).drew))
        have HCC := Lib.hid hcc
        clear hcc
        have hbd : Below w.heap.size w wr.drew := hbel.drew
        go_upto_region 15 with (fail)
        go_region_law (refine step_copy_splice rfl (.tmp 73) (.tmp 76) 22 22 rfl 5 Tryd.underlying22 info5s (some ⟨w.heap.size, 10, none⟩) (some ⟨b, off, none⟩) 128 128 (m - (9 + 8 * wb)) (c - (9 + 8 * wb)) (by simp [Act.eval, Act.put]) (by simp [Act.eval, Act.put, HTO.out, HCC.out]) w.heap.size 10 (hashV k n (tell (stW k L) 8) (zeros 128)) 72 K8.out (natsV .u8 (L.drop (9 + 8 * wb))) HMIN.out (fun h => ⟨rfl, HPOS.out h⟩) HFIT.out (natsV_one _ _) w.heap.size w hbd (Nat.le_refl _) ?_; intro w4 hg4 hb4)
        all_goals
          go_wp2_with fail
          go_ret2
          exact ⟨w.heap.size, rfl, Nat.le_refl _, HFIN.out w4 hg4.out, hb4⟩
      · have HS2 := Lib.hid (HSRC.out (some ⟨b, off + (9 + 8 * wb), none⟩) (.inr rfl))
        have HPOS := Lib.hid (copyPos (w := wr.drew) (HS2.out.below (Below.refl wr.heap.size wr).drew))
        have HCC := Lib.hid hcc
        clear hcc
        have hbd : Below w.heap.size w wr.drew := hbel.drew
        go_upto_region 15 with (fail)
        go_region_law (refine step_copy_splice rfl (.tmp 73) (.tmp 76) 22 22 rfl 5 Tryd.underlying22 info5s (some ⟨w.heap.size, 10, none⟩) (some ⟨b, off + (9 + 8 * wb), none⟩) 128 128 (m - (9 + 8 * wb)) (c - (9 + 8 * wb)) (by simp [Act.eval, Act.put]) (by simp [Act.eval, Act.put, HTO.out, HCC.out]) w.heap.size 10 (hashV k n (tell (stW k L) 8) (zeros 128)) 72 K8.out (natsV .u8 (L.drop (9 + 8 * wb))) HMIN.out (fun h => ⟨rfl, HPOS.out h⟩) HFIT.out (natsV_one _ _) w.heap.size w hbd (Nat.le_refl _) ?_; intro w4 hg4 hb4)
        all_goals
          go_wp2_with fail
          go_ret2
          exact ⟨w.heap.size, rfl, Nat.le_refl _, HFIN.out w4 hg4.out, hb4⟩
end Go.Proofs.YtnikhnpigopihaaDoor
