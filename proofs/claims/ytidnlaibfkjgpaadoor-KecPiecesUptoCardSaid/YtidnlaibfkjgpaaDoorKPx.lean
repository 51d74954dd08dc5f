/- KecPieces' walk. Condition: the table of constants; all pieces together at most 1048576 bytes. -/
import Derived.Test.YtidnlaibfkjgpaaDoorKPw
import Derived.Deep.CutRange
namespace Go.Proofs.YtidnlaibfkjgpaaDoor
open Go.RowKit
set_option linter.unusedVariables false
set_option maxRecDepth 100000 in
set_option maxHeartbeats 3200000 in
theorem pieces_walk (P Z : Option Addr) (np cp no co : Nat) (ps : List Piece) (zs : List Int) (kind : Int) (w : World) (htab : Tabs w) (hps : PsIn w P np ps) (hzs : ZsIn w Z no zs) (hnp : np ≤ 1048576) (hno : no ≤ 1048576) (hall : (flatP ps ps.length).length ≤ 1048576) :
    Calls Tryd.prog 6 #[.slice P np cp, .slice Z no co, .int .i64 kind] w fun e w' => e = .returned (.bool true) ∧ Below w.heap.size w w' := by
  have HA := Lib.hid (awake_any w htab)
  have HTAB := Lib.hid htab
  have HPS := Lib.hid hps
  have HZS := Lib.hid hzs
  have HALL := Lib.hid hall
  clear htab hps hzs hall
  go_enter Tryd.func6, Tryd.ntmps6
  go_wp2_with fail
  refine HA.out.mono ?_
  rintro e w1 ⟨rfl, hb0⟩
  have hbel := hb0
  clear hb0 HA
  go_upto_if 25 with (fail)
  go_cut [8] from 23 to 25 (fun v wx => wx = w1 ∧ ∃ k : Nat, (k = 4 ∨ k = 5) ∧ v = .int .i64 (k : Nat))
  case first =>
    by_cases hm : (kind.tmod 2 != 0) = true
    · go_wp2_with fail
      go_meet
      case rel => exact ⟨rfl, 5, .inr rfl, rfl⟩
    · have hm' : (kind.tmod 2 != 0) = false := by simpa using hm
      go_wp2_with fail
      go_meet
      case rel => exact ⟨rfl, 4, .inl rfl, rfl⟩
  case rest =>
    obtain ⟨rfl, k, hk, rfl⟩ := hcut
    have hkk : IsKind k := by unfold IsKind; omega
    have HNW := Lib.hid (new_any k hkk _ (HTAB.out.below hbel))
    have hr := rateK_le hkk
    have hlf : sizeK k = -1 := by rcases hk with rfl | rfl <;> rfl
    go_wp2_with fail
    refine HNW.out.mono ?_
    rintro e w2 ⟨g, rfl, hg, hsp, hb2⟩
    have hbel2 := hbel.trans (hb2.mono hbel.size)
    have hgw : w.heap.size ≤ g := Nat.le_trans hbel.size hg
    have hgl : g < w2.heap.size := hsp.2.2.2.2.lt
    rw [hlf] at hsp
    have HSP := Lib.hid hsp
    have HB2 := Lib.hid hbel2
    clear hsp hb2 HNW hbel hg hbel2
    go_wp2_with fail
    go_loopw [11, 12] (fun v11 v12 wr => ∃ (i : Nat) (V : Value), V = v11 ∧ v12 = .int .i64 i ∧ i ≤ np ∧ i ≤ 100 ∧ wr.ownsRow w2.heap.size 5 1 V (flatP ps i).length (bytesV (flatP ps i)) ∧ SpAt wr g k (absL (rateK k) (zeros 25, 0) (flatP ps i)).2 false (-1) (absL (rateK k) (zeros 25, 0) (flatP ps i)).1 ∧ w2.heap.size ≤ wr.heap.size ∧ Below w.heap.size w wr) (fun _ v12 _ => np - (intOf v12).toNat)
    case atStart => exact ⟨0, _, rfl, rfl, by omega, by omega, ⟨rfl, .inl ⟨rfl, rfl⟩⟩, HSP.out, Nat.le_refl _, HB2.out⟩
    case round =>
      clear HSP HB2
      obtain ⟨i, V, hV, rfl, hi1, hi2, ho, hsp, hsz, hbe⟩ := hrel
      subst hV
      have HO := Lib.hid ho
      have HSP := Lib.hid hsp
      have HBE := Lib.hid hbe
      clear ho hsp hbe
      by_cases hq : i < np ∧ i < 100
      · obtain ⟨hq1, hq2⟩ := hq
        have hq1i : (i : Int) < (np : Int) := by omega
        have hq2i : (i : Int) < 100 := by omega
        obtain ⟨b, off, rfl, hcell⟩ := HPS.out.2.2.resolve_left (by omega)
        obtain ⟨x, hx⟩ : ∃ x, ps[i]? = some x := ⟨_, List.getElem?_eq_getElem (by rw [HPS.out.1]; exact hq1)⟩
        have hc0 := hcell i x hx
        have hb0 := HPS.out.2.1 x (List.mem_of_getElem? hx)
        have hcx := (HBE.out.cell (World.block_lt_of_cell? w _ hc0)).trans hc0
        have HC0 := Lib.hid hc0
        have HBX := Lib.hid hb0
        have HFS := Lib.hid (flatP_succ ps i x hx)
        have hlen : (flatP ps i).length + x.n ≤ 1048576 := by
          have h1 := flatP_len ps (i + 1)
          rw [HFS.out, List.length_append, hb0.1.1] at h1
          exact Nat.le_trans h1 HALL.out
        have HWR := Lib.hid (write_any g k _ (-1) _ x.a x.n x.c x.l wr HSP.out (hb0.below HBE.out) (fun b' hb' hn' e => by have := bin_block hb0 b' hb' hn'; omega) (HTAB.out.below HBE.out))
        clear hcell hc0 hb0
        go_wp2_with fail
        refine HWR.out.mono ?_
        rintro e w3 ⟨rfl, hsp3, hg3⟩
        have hbe3 := HBE.out.grown hg3 HBE.out.size (fun j hj => by injection hj with hj; omega)
        have hcx3 := (hbe3.cell (World.block_lt_of_cell? w _ HC0.out)).trans HC0.out
        have HO3 := Lib.hid (HO.out.kept hg3 (.inr (fun e => by have := (HO.out.lt g e).1; omega)))
        have hsz3 := Nat.le_trans hsz hg3.size
        have HSP3 := Lib.hid hsp3
        have HBE3 := Lib.hid hbe3
        have HBX3 := Lib.hid (HBX.out.below hbe3)
        clear hsp3 hg3 hbe3 HWR
        go_wp2_with (at_builtin; refine wpList_append_bytes _ rfl _ _ rfl w2.heap.size V (flatP ps i).length (flatP ps i) rfl HO3.out x.a x.n x.c x.l rfl HBX3.out ?d1 ?d2 ?_)
        case d1 => omega
        case d2 => exact hsz3
        intro v4 w4 h1 h2
        have HSP4 := Lib.hid (show SpAt w4 g k _ false (-1) _ from ⟨HSP3.out.1, HSP3.out.2.1, HSP3.out.2.2.1, HSP3.out.2.2.2.1, HSP3.out.2.2.2.2.grown h2 (fun e => by have := (HO3.out.lt g e.symm).1; omega)⟩)
        have hbe4 := HBE3.out.grown h2 HBE3.out.size (fun j hj => by have := (HO3.out.lt j hj).1; omega)
        have HO4 := Lib.hid (show w4.ownsRow w2.heap.size 5 1 v4 (flatP ps (i + 1)).length (bytesV (flatP ps (i + 1))) from by rw [HFS.out, List.length_append, HBX.out.1.1]; exact h1)
        have hsz4 := Nat.le_trans hsz3 h2.size
        clear h1 h2
        go_wp2_with fail
        go_roundw
        case rel => exact ⟨i + 1, v4, rfl, by go_num, by omega, by omega, HO4.out, by rw [HFS.out, absL_append]; exact HSP4.out, hsz4, hbe4⟩
        case measure => simp [intOf]; omega
      · have HL := Lib.hid (Nat.le_trans (flatP_len ps i) HALL.out)
        obtain ⟨aL, cL, rfl, HBL0, _⟩ := own_in HO.out (flatP_lt (fun x hx => (HPS.out.2.1 x hx).1.2.2.1) i) (by have := HL.out; omega)
        have HBL := Lib.hid HBL0
        have HNE := Lib.hid (show ∀ b, aL = some b → 0 < (flatP ps i).length → b.block ≠ g from fun b hb _ e => by
          subst hb
          rcases HO.out.2 with ⟨h0, _⟩ | ⟨G, cp', cur, h1, h2, _⟩
          · cases h0
          · simp only [Value.slice.injEq, Option.some.injEq] at h1
            obtain ⟨rfl, _⟩ := h1
            have e' : G = g := e
            omega)
        clear HBL0 HO
        generalize flatP ps i = L at *
        have HAK := Lib.hid (show ∀ n, allK k L n = sqB (rateK k) (endN k (absL (rateK k) (zeros 25, 0) L), 0) n from fun n => rfl)
        have HTK := Lib.hid (fun n => allK_take k L n 37)
        have HS := Lib.hid (fun (n : Nat) (hn : n ≤ 65536) (a : Option Addr) (m c : Nat) (w : World) (hb : BIn w a m c L) (ht : Tabs w) => show Calls Tryd.prog 14 #[.int .i64 (k : Nat), .slice a m c, .int .i64 (n : Nat)] w (GaveIs n (allK k L n) w) from by
          rcases hk with rfl | rfl
          · exact shake_4 n hn a m c L w hb ht
          · exact shake_5 n hn a m c L w hb ht)
        generalize absL (rateK k) (zeros 25, 0) L = p at *
        have hcase : (i = np) ∨ (i < np ∧ i = 100) := by omega
        rcases hcase with rfl | ⟨hq3, rfl⟩
        all_goals
          go_wp2_with fail
          obtain ⟨B5, hB5⟩ : ∃ B5, wr.heap.size = B5 := ⟨_, rfl⟩
          have hgB : g < B5 := by omega
          have HNB := Lib.hid (show ∀ b, aL = some b → 0 < L.length → b.block < B5 from fun b hb hn => by rw [← hB5]; exact bin_block HBL.out b hb hn)
          go_loopw [13, 14] (fun v13 v14 wr => ∃ (i2 M : Nat) (V2 : Value) (gv : Bool) (s : List Nat) (a : Nat), V2 = v13 ∧ v14 = .int .i64 i2 ∧ i2 ≤ no ∧ i2 ≤ 20 ∧ M ≤ 499 * i2 ∧ wr.ownsRow B5 5 1 V2 M (bytesV (sqB (rateK k) (endN k p, 0) M)) ∧ SpAt wr g k a gv (-1) s ∧ (if gv then (s, a) else (endN k (s, a), 0)) = sqS (rateK k) (endN k p, 0) M ∧ BIn wr aL L.length cL L ∧ B5 ≤ wr.heap.size ∧ Below w.heap.size w wr) (fun _ v14 _ => no - (intOf v14).toNat)
          case atStart => exact ⟨0, 0, _, false, p.1, p.2, rfl, rfl, by omega, by omega, by omega, ⟨rfl, .inl ⟨rfl, rfl⟩⟩, HSP.out, rfl, HBL.out, Nat.le_of_eq hB5.symm, HBE.out⟩
          case round =>
            clear HSP HBL
            obtain ⟨i2, M, V2, gv, s, a, hV2, rfl, hj1, hj2, hM, ho, hsp, heq, hbl, hszq, hbe⟩ := hrel
            subst hV2
            have HO := Lib.hid ho
            have HSP := Lib.hid hsp
            have HEQ := Lib.hid heq
            have HBL := Lib.hid hbl
            have HBQ := Lib.hid hbe
            clear ho hsp heq hbl hbe
            by_cases hq4 : i2 < no ∧ i2 < 20
            · obtain ⟨hq5, hq6⟩ := hq4
              have hq5i : (i2 : Int) < (no : Int) := by omega
              have hq6i : (i2 : Int) < 20 := by omega
              obtain ⟨bz, oz, rfl, hcz⟩ := HZS.out.2.2.resolve_left (by omega)
              obtain ⟨z, hz⟩ : ∃ z, zs[i2]? = some z := ⟨_, List.getElem?_eq_getElem (by rw [HZS.out.1]; exact hq5)⟩
              have hc0 := hcz i2 z hz
              have hcx := (HBQ.out.cell (World.block_lt_of_cell? w _ hc0)).trans hc0
              clear hcz hc0
              obtain ⟨nN, hnN, hcs⟩ : ∃ nN : Nat, nN ≤ 499 ∧ (z.tmod 500 = (nN : Int) ∨ (z.tmod 500 = -(nN : Int) ∧ 0 < nN)) := by
                have h1 := Int.natAbs_tmod z 500
                rw [show (500 : Int).natAbs = 500 from rfl] at h1
                generalize z.tmod 500 = tt at *
                exact ⟨tt.natAbs, by omega, by omega⟩
              have HRD := Lib.hid (readSp_any g k a nN gv (-1) s wr HSP.out (by omega) (.inl rfl) (HTAB.out.below HBQ.out) _ HEQ.out)
              have HSB := Lib.hid (sqB_add (rateK k) (endN k p, 0) M nN)
              have HSS := Lib.hid (sqS_add (rateK k) (endN k p, 0) M nN)
              rcases hcs with hcs | ⟨hcs, hpos⟩
              all_goals
                go_wp2_with fail
                refine HRD.out.mono ?_
                rintro e w3 ⟨G3, rfl, hG3, hblk3, hsp3, hg3⟩
                have hbe3 := HBQ.out.grown hg3 HBQ.out.size (fun j hj => by injection hj with hj; omega)
                have HO3 := Lib.hid (HO.out.kept hg3 (.inr (fun e => by have := (HO.out.lt g e).1; omega)))
                have HBL3 := Lib.hid (bin_grownR HBL.out hg3 (fun b hb hn e => HNE.out b hb hn (by injection e)))
                have HBX3 := Lib.hid (show BIn w3 (some ⟨G3, 0, none⟩) nN nN (sqB (rateK k) (sqS (rateK k) (endN k p, 0) M) nN) from ⟨⟨sqB_length _ _ _, by unfold maxLen; omega, sqB_lt _ _ _, .inr ⟨G3, 0, rfl, fun i hi => by rw [Nat.zero_add]; exact hblk3.nat i (by rw [sqB_length]; exact hi)⟩⟩, Nat.le_refl _, by unfold maxLen; omega, by omega, fun h => by cases h⟩)
                have HSP3 := Lib.hid hsp3
                have HBE3 := Lib.hid hbe3
                have hsz3 := Nat.le_trans hszq hg3.size
                clear hsp3 hbe3 hg3 hblk3 HRD
                go_wp2_with (at_builtin; refine wpList_append_bytes _ rfl _ _ rfl B5 V2 M _ rfl HO3.out (some ⟨G3, 0, none⟩) nN nN _ rfl HBX3.out ?d1 ?d2 ?_)
                case d1 => omega
                case d2 => exact hsz3
                intro v4 w4 h1 h2
                rw [← HSB.out] at h1
                have HSP4 := Lib.hid (show SpAt w4 g k _ true _ _ from ⟨HSP3.out.1, HSP3.out.2.1, HSP3.out.2.2.1, HSP3.out.2.2.2.1, HSP3.out.2.2.2.2.grown h2 (fun e => by have := (HO3.out.lt g e.symm).1; omega)⟩)
                have hbe4 := HBE3.out.grown h2 HBE3.out.size (fun j hj => by have := (HO3.out.lt j hj).1; omega)
                have HBL4 := Lib.hid (bin_grownR HBL3.out h2 (fun b hb hn e => by have h3 := (HO3.out.lt _ e.symm).1; have h4 := HNB.out b hb hn; omega))
                have HO4 := Lib.hid h1
                have hsz4 := Nat.le_trans hsz3 h2.size
                clear h1 h2
                go_wp2_with fail
                go_roundw
                case rel => exact ⟨i2 + 1, M + nN, v4, true, _, _, rfl, by go_num, by omega, by omega, by omega, HO4.out, HSP4.out, by rw [HSS.out]; rfl, HBL4.out, hsz4, hbe4⟩
                case measure => simp [intOf]; omega
            · obtain ⟨aG, cG, rfl, HGO0, _⟩ := own_in HO.out (sqB_lt _ _ _) (by omega)
              have HGO := Lib.hid HGO0
              have hM2 : M ≤ 9980 := by omega
              have HS1 := Lib.hid (HS.out M (by omega) aL L.length cL wr HBL.out (HTAB.out.below HBQ.out))
              have HS2 := Lib.hid (fun (w5 : World) (hb : Below wr.heap.size wr w5) => show Calls Tryd.prog 14 #[.int .i64 (k : Nat), .slice aL L.length cL, .int .i64 ((M : Int) + 37)] w5 (GaveIs (M + 37) (allK k L (M + 37)) w5) from HS.out (M + 37) (by omega) aL L.length cL w5 (HBL.out.below hb) ((HTAB.out.below HBQ.out).below hb))
              have hcase2 : (i2 = no) ∨ (i2 < no ∧ i2 = 20) := by omega
              clear HGO0 HO
              rcases hcase2 with rfl | ⟨hq7, rfl⟩
              all_goals
                go_wp2_with fail
                refine HS1.out.mono ?_
                rintro e w5 ⟨G5, rfl, hG5, hb5, hbe5⟩
                have HB5 := Lib.hid hb5
                have HE5 := Lib.hid hbe5
                clear hb5 hbe5
                go_wp2_with fail
                refine (HS2.out w5 HE5.out).mono ?_
                rintro e w6 ⟨G6, rfl, hG6, hb6, hbe6⟩
                have HB5' := Lib.hid (HB5.out.below' hbe6)
                have HB6 := Lib.hid hb6
                have HE6 := Lib.hid (HE5.out.trans (hbe6.mono HE5.out.size))
                clear hb6 hbe6
                have HR5 := Lib.hid (show ByteRow w6 (some ⟨G5, 0, none⟩) M (sqB (rateK k) (endN k p, 0) M) from ⟨sqB_length _ _ _, by unfold maxLen; omega, sqB_lt _ _ _, .inr ⟨G5, 0, rfl, fun i hi => by rw [Nat.zero_add, ← HAK.out]; exact HB5'.out.nat i (by rw [allK_length]; exact hi)⟩⟩)
                have HS3 := Lib.hid (same_eq (some ⟨G5, 0, none⟩) aG M M cG _ w6 HR5.out (HGO.out.below HE6.out).1)
                go_wp2_with fail
                refine HS3.out.mono ?_
                rintro e w7 ⟨rfl, hbe7⟩
                have HE7 := Lib.hid (HE6.out.trans (hbe7.mono HE6.out.size))
                have hB6 : BIn w7 (some ⟨G6, 0, none⟩) (M + 37) (M + 37) (allK k L (M + 37)) := ⟨⟨allK_length _ _ _, by unfold maxLen; omega, allK_lt _ _ _, .inr ⟨G6, 0, rfl, fun i hi => by rw [Nat.zero_add]; exact (HB6.out.below' hbe7).nat i (by rw [allK_length]; exact hi)⟩⟩, Nat.le_refl _, by unfold maxLen; omega, by omega, fun h => by cases h⟩
                have hB7 := bin_head hB6 (show M ≤ M + 37 by omega) (by omega)
                rw [HTK.out, HAK.out] at hB7
                have HS4 := Lib.hid (same_eq (some ⟨G6, 0, none⟩) aG M (M + 37) cG _ w7 hB7.1 (HGO.out.below HE7.out).1)
                clear hbe7 hB6 hB7
                go_wp2_with fail
                refine HS4.out.mono ?_
                rintro e w8 ⟨rfl, hbe8⟩
                have hbe := HBQ.out.trans ((HE7.out.trans (hbe8.mono HE7.out.size)).mono HBQ.out.size)
                go_wp2_with fail
                go_ret
                exact ⟨rfl, hbe⟩
end Go.Proofs.YtidnlaibfkjgpaaDoor
