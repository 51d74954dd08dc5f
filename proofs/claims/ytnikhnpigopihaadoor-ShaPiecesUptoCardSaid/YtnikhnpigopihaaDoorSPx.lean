/- ShaPieces' walk. Condition: the tables; all pieces together at most 1048576 bytes. -/
import Derived.Test.YtnikhnpigopihaaDoorSPe
namespace Go.Proofs.YtnikhnpigopihaaDoor
open Go.RowKit
set_option linter.unusedVariables false
set_option linter.unusedSimpArgs false
def oldL : List Nat := [119, 104, 97, 116, 32, 105, 115, 32, 119, 114, 105, 116, 116, 101, 110, 32, 116, 111, 32, 116, 104, 101, 32, 111, 108, 100, 32, 111, 110, 101, 32, 100, 111, 101, 115, 32, 110, 111, 116, 32, 116, 111, 117, 99, 104, 32, 116, 104, 101, 32, 110, 101, 119, 32, 111, 110, 101]
def wordCells : Obj := Obj.cells #[Value.int IntKind.u8 119, Value.int IntKind.u8 104, Value.int IntKind.u8 97, Value.int IntKind.u8 116, Value.int IntKind.u8 32, Value.int IntKind.u8 105, Value.int IntKind.u8 115, Value.int IntKind.u8 32, Value.int IntKind.u8 119, Value.int IntKind.u8 114, Value.int IntKind.u8 105, Value.int IntKind.u8 116, Value.int IntKind.u8 116, Value.int IntKind.u8 101, Value.int IntKind.u8 110, Value.int IntKind.u8 32, Value.int IntKind.u8 116, Value.int IntKind.u8 111, Value.int IntKind.u8 32, Value.int IntKind.u8 116, Value.int IntKind.u8 104, Value.int IntKind.u8 101, Value.int IntKind.u8 32, Value.int IntKind.u8 111, Value.int IntKind.u8 108, Value.int IntKind.u8 100, Value.int IntKind.u8 32, Value.int IntKind.u8 111, Value.int IntKind.u8 110, Value.int IntKind.u8 101, Value.int IntKind.u8 32, Value.int IntKind.u8 100, Value.int IntKind.u8 111, Value.int IntKind.u8 101, Value.int IntKind.u8 115, Value.int IntKind.u8 32, Value.int IntKind.u8 110, Value.int IntKind.u8 111, Value.int IntKind.u8 116, Value.int IntKind.u8 32, Value.int IntKind.u8 116, Value.int IntKind.u8 111, Value.int IntKind.u8 117, Value.int IntKind.u8 99, Value.int IntKind.u8 104, Value.int IntKind.u8 32, Value.int IntKind.u8 116, Value.int IntKind.u8 104, Value.int IntKind.u8 101, Value.int IntKind.u8 32, Value.int IntKind.u8 110, Value.int IntKind.u8 101, Value.int IntKind.u8 119, Value.int IntKind.u8 32, Value.int IntKind.u8 111, Value.int IntKind.u8 110, Value.int IntKind.u8 101] 5 (57, 58)
theorem word_eq : wordCells = Obj.cells (bytesV oldL).toArray 5 (57, 58) := rfl
theorem word_bin (w : World) : BIn (w.alloc wordCells) (some ⟨w.heap.size, 0, none⟩) 57 57 oldL := by
  refine ⟨⟨rfl, by unfold maxLen; omega, by decide, .inr ⟨w.heap.size, 0, rfl, fun i hi => ?_⟩⟩, Nat.le_refl _, by unfold maxLen; omega, by omega, fun h => by cases h⟩
  rw [word_eq, Nat.zero_add, World.cell?_alloc_mark]
  have hl : i < oldL.length := hi
  simp [bytesV, List.getD_eq_getElem?_getD, List.getElem?_eq_getElem hl]
set_option maxRecDepth 100000 in
set_option maxHeartbeats 3200000 in
theorem pieces_walk (P : Option Addr) (np cp : Nat) (ps : List Piece) (kind : Int) (w : World) (htab : Tabs w) (h2 : 2 ≤ w.heap.size) (hps : PsIn w P np ps) (hnp : np ≤ 1048576) (hall : (flatP ps ps.length).length ≤ 1048576) :
    Calls Tryd.prog 6 #[.slice P np cp, .int .i64 kind] w fun e w' => e = .returned (.bool true) ∧ Below w.heap.size w w' := by
  have HA := Lib.hid (awake_any w htab)
  have HTAB := Lib.hid htab
  have HPS := Lib.hid hps
  have HALL := Lib.hid hall
  clear htab hps hall
  go_enter Tryd.func6, Tryd.ntmps6
  go_wp2_with fail
  refine HA.out.mono ?_
  rintro e w1 ⟨rfl, hb0⟩
  have hbel := hb0
  clear hb0 HA
  obtain ⟨r3, hr3⟩ : ∃ r3, kind.tmod 3 = r3 := ⟨_, rfl⟩
  have HR3 := Lib.hid hr3
  clear hr3
  go_upto_region 3 with (fail)
  go_cut [21] from 14 to 21 (fun v wx => wx = w1 ∧ ∃ c : Bool, v = .bool c)
  case first =>
    have e0 := HR3.out
    clear HR3
    cases b1 : (r3 == 1) with
    | true =>
      go_wp2_with fail
      go_meet
      case rel => exact ⟨rfl, _, rfl⟩
    | false =>
      go_wp2_with fail
      go_meet
      case rel => exact ⟨rfl, _, rfl⟩
  case rest =>
    obtain ⟨rfl, c, rfl⟩ := hcut
    go_upto_if 21 with (fail)
    go_cut [6] from 21 to 21 (fun v wx => wx = wc ∧ ∃ k : Nat, (k = 1 ∨ k = 2) ∧ v = .int .i64 (bitsK k))
    case first =>
      cases c
      · go_wp2_with fail
        go_meet
        case rel => exact ⟨rfl, 1, .inl rfl, rfl⟩
      · go_wp2_with fail
        go_meet
        case rel => exact ⟨rfl, 2, .inr rfl, rfl⟩
    case rest =>
      obtain ⟨rfl, k0, hk0, rfl⟩ := hcut
      go_upto_region 5 with (fail)
      go_cut [29] from 22 to 29 (fun v wx => wx = wc ∧ ∃ c : Bool, v = .bool c)
      case first =>
        have e0 := HR3.out
        clear HR3
        cases b1 : (r3 == 2) with
        | true =>
          go_wp2_with fail
          go_meet
          case rel => exact ⟨rfl, _, rfl⟩
        | false =>
          go_wp2_with fail
          go_meet
          case rel => exact ⟨rfl, _, rfl⟩
      case rest =>
        obtain ⟨rfl, c2, rfl⟩ := hcut
        go_upto_if 29 with (fail)
        go_cut [6] from 29 to 29 (fun v wx => wx = wc ∧ ∃ k : Nat, IsKind k ∧ v = .int .i64 (bitsK k))
        case first =>
          cases c2
          · go_wp2_with fail
            go_meet
            case rel => exact ⟨rfl, k0, by unfold IsKind; omega, rfl⟩
          · go_wp2_with fail
            go_meet
            case rel => exact ⟨rfl, 3, .inr (.inr rfl), rfl⟩
        case rest =>
          obtain ⟨rfl, k, hk, rfl⟩ := hcut
          have HNW := Lib.hid (new_any k hk wc (HTAB.out.below hbel) (Nat.le_trans h2 hbel.size))
          go_wp2_with fail
          refine HNW.out.mono ?_
          rintro e w2 ⟨g0, rfl, hg0, hh, hb2⟩
          have hbel2 := hbel.trans (hb2.mono hbel.size)
          have hg0w := Nat.le_trans hbel.size hg0
          have HH0 := Lib.hid hh
          have HB2 := Lib.hid hbel2
          clear hh hb2 HNW hbel hg0 hbel2
          go_wp2_with fail
          go_loopw [7, 9, 10] (fun v7 v9 v10 wr => ∃ (i g : Nat) (V : Value), v7 = .pointer (some ⟨g, 0, none⟩) ∧ V = v9 ∧ v10 = .int .i64 i ∧ i ≤ np ∧ i ≤ 200 ∧ w.heap.size ≤ g ∧ wr.ownsRow w.heap.size 5 1 V (flatP ps i).length (bytesV (flatP ps i)) ∧ HX wr g k (flatP ps i) ∧ Below w.heap.size w wr) (fun _ _ v10 _ => np - (intOf v10).toNat)
          case atStart => exact ⟨0, g0, _, rfl, rfl, rfl, by omega, by omega, hg0w, ⟨rfl, .inl ⟨rfl, rfl⟩⟩, HH0.out, HB2.out⟩
          case round =>
            clear HH0 HB2 hg0w
            obtain ⟨i, g, V, rfl, hV, rfl, hi1, hi2, hgw, ho, hh, hbe⟩ := hrel
            subst hV
            have HO := Lib.hid ho
            have HH := Lib.hid hh
            have HBE := Lib.hid hbe
            clear ho hh hbe
            by_cases hq : i < np ∧ i < 200
            · obtain ⟨hq1, hq2⟩ := hq
              have hq1i : (i : Int) < (np : Int) := by omega
              have hq2i : (i : Int) < 200 := by omega
              obtain ⟨b, off, rfl, hcell⟩ := HPS.out.2.2.resolve_left (by omega)
              obtain ⟨x, hx⟩ : ∃ x, ps[i]? = some x := ⟨_, List.getElem?_eq_getElem (by rw [HPS.out.1]; exact hq1)⟩
              have hc0 := hcell i x hx
              have hb0 := HPS.out.2.1 x (List.mem_of_getElem? hx)
              have hcx := (HBE.out.cell (World.block_lt_of_cell? w _ hc0)).trans hc0
              have HC0 := Lib.hid hc0
              have HBX := Lib.hid hb0
              have HFS := Lib.hid (flatP_succ ps i x hx)
              have hlen : (flatP ps i).length + x.n ≤ 1048576 := by
                have h1 := flatP_len ps (i + 1)
                rw [HFS.out, List.length_append, hb0.1.1] at h1
                exact Nat.le_trans h1 HALL.out
              have HWR := Lib.hid (write_HX g k (flatP ps i) x.l x.a x.n x.c wr HH.out (hb0.below HBE.out) (fun b' hb' hn' e => by have := bin_block hb0 b' hb' hn'; omega) (HTAB.out.below HBE.out) (by omega))
              clear hcell hc0 hb0
              go_wp2_with fail
              refine HWR.out.mono ?_
              rintro e w3 ⟨rfl, hh3, hg3⟩
              have hbe3 := HBE.out.grown hg3 HBE.out.size (fun j hj => by injection hj with hj; omega)
              have hcx3 := (hbe3.cell (World.block_lt_of_cell? w _ HC0.out)).trans HC0.out
              have HO3 := Lib.hid (HO.out.kept hg3 (.inr (fun e => by obtain ⟨cs, hbk⟩ := HH.out.blk; exact own_ne HO.out hbk e.symm)))
              have HH3 := Lib.hid hh3
              have HBE3 := Lib.hid hbe3
              have HBX3 := Lib.hid (HBX.out.below hbe3)
              clear hh3 hg3 hbe3 HWR HH HO
              go_wp2_with (at_builtin; refine wpList_append_bytes _ rfl _ _ rfl w.heap.size V (flatP ps i).length (flatP ps i) rfl HO3.out x.a x.n x.c x.l rfl HBX3.out ?d1 ?d2 ?_)
              case d1 => omega
              case d2 => exact HBE3.out.size
              intro v4 w4 h1 h2'
              have HH4 := Lib.hid (show HX w4 g k (flatP ps (i + 1)) from by rw [HFS.out]; obtain ⟨cs, hbk⟩ := HH3.out.blk; exact HH3.out.grown h2' (own_ne HO3.out hbk))
              have hbe4 := HBE3.out.grown h2' HBE3.out.size (fun j hj => by have := (HO3.out.lt j hj).1; omega)
              have HO4 := Lib.hid (show w4.ownsRow w.heap.size 5 1 v4 (flatP ps (i + 1)).length (bytesV (flatP ps (i + 1))) from by rw [HFS.out, List.length_append, HBX.out.1.1]; exact h1)
              have HBE4 := Lib.hid hbe4
              have hlen4 : (flatP ps (i + 1)).length ≤ 1048576 := by rw [HFS.out, List.length_append, HBX.out.1.1]; exact hlen
              clear h1 h2' hbe4 HH3 HO3 HBE3 HBX3 hcx hcx3
              obtain ⟨L, hLq⟩ : ∃ L, flatP ps (i + 1) = L := ⟨_, rfl⟩
              rw [hLq] at HH4 HO4 hlen4
              have HLQ := Lib.hid hLq
              clear hLq
              by_cases hodd : i % 2 = 1
              · have e1 : (i : Int) % 2 = 1 := by omega
                have HST := Lib.hid (st_any g k L w4 HH4.out)
                go_wp2_with fail
                refine HST.out.mono ?_
                rintro e w5 ⟨G, c5, rfl, hbin, hb5⟩
                have HH5 := Lib.hid (HH4.out.below hb5)
                have HO5 := Lib.hid (own_below HO4.out hb5)
                have HBE5 := Lib.hid (HBE4.out.trans (hb5.mono HBE4.out.size))
                have HRE := Lib.hid (re_any G c5 k L HH4.out.1 hk (by omega) w5 ⟨HH4.out.2.2.2.1, HH4.out.2.2.2.2.1⟩ HH4.out.2.2.2.2.2.1 hbin (Nat.le_trans h2 HBE5.out.size))
                clear hbin hb5 HST HH4 HO4 HBE4
                go_wp2_with fail
                refine HRE.out.mono ?_
                rintro e w6 ⟨g6, rfl, hg6, hh6, hb6⟩
                have HH6 := Lib.hid (HH5.out.below hb6)
                have HO6 := Lib.hid (own_below HO5.out hb6)
                have HBE6 := Lib.hid (HBE5.out.trans (hb6.mono HBE5.out.size))
                have HN6 := Lib.hid hh6
                have hgg : g < g6 := by obtain ⟨cs, hbk⟩ := HH5.out.blk; exact Nat.lt_of_lt_of_le hbk.lt hg6
                clear hh6 hb6 HRE HH5 HO5 HBE5
                have hbw := (Below.refl w6.heap.size w6).alloc (Nat.le_refl _) wordCells
                have HH7 := Lib.hid (HH6.out.below hbw)
                have HN7 := Lib.hid (HN6.out.below hbw)
                have HO7 := Lib.hid (own_below HO6.out hbw)
                have HBE7 := Lib.hid (HBE6.out.trans (hbw.mono HBE6.out.size))
                have HW7 := Lib.hid (write_HX g k L oldL (some ⟨w6.heap.size, 0, none⟩) 57 57 (w6.alloc wordCells) HH7.out (word_bin w6) (fun b' hb' _ e => by injection hb' with hb'; subst hb'; obtain ⟨cs, hbk⟩ := HH6.out.blk; have := hbk.lt; simp at e; omega) (HTAB.out.below HBE7.out) (by omega))
                unfold wordCells at HW7
                have kc := fun (w : World) (C : Array Value) (n c : Nat) => Lib.run_convert_bytes_const (P := Tryd.prog) w 22 5 C n c Tryd.underlying22 Tryd.underlying5
                clear hbw HH6 HN6 HO6 HBE6
                go_wp2_with fail
                clear kc
                refine HW7.out.mono ?_
                rintro e w8 ⟨rfl, hh8, hg8⟩
                have HN8 := Lib.hid (HN7.out.grown hg8 (fun e => by have := Option.some.inj e; omega))
                have HO8 := Lib.hid (HO7.out.kept hg8 (.inr (fun e => by obtain ⟨cs, hbk⟩ := HH7.out.blk; exact own_ne HO7.out hbk e.symm)))
                have HBE8 := Lib.hid (HBE7.out.grown hg8 HBE7.out.size (fun j hj => by injection hj with hj; omega))
                have hg6w : w.heap.size ≤ g6 := by omega
                clear HN7 HO7 HBE7 HH7 HW7 hh8 hg8
                go_wp2_with fail
                go_roundw
                case rel => exact ⟨i + 1, g6, v4, rfl, rfl, by go_num, by omega, by omega, hg6w, by rw [HLQ.out]; exact HO8.out, by rw [HLQ.out]; exact HN8.out, HBE8.out⟩
                case measure => simp [intOf]; omega
              · have e1 : (i : Int) % 2 = 0 := by omega
                go_wp2_with fail
                go_roundw
                case rel => exact ⟨i + 1, g, v4, rfl, rfl, by go_num, by omega, by omega, hgw, by rw [HLQ.out]; exact HO4.out, by rw [HLQ.out]; exact HH4.out, HBE4.out⟩
                case measure => simp [intOf]; omega
            · have HL := Lib.hid (Nat.le_trans (flatP_len ps i) HALL.out)
              obtain ⟨aL, cL, rfl, HBL0, _⟩ := own_in HO.out (flatP_lt (fun x hx => (HPS.out.2.1 x hx).1.2.2.1) i) (by have := HL.out; omega)
              have HBL := Lib.hid HBL0
              generalize flatP ps i = L at *
              have HLL := HL.out
              have HSM := Lib.hid (sum_HX g k L wr HH.out (HTAB.out.below HBE.out))
              have hlenN := HH.out.2.1
              have HDL := Lib.hid (show (msgD k L).length = dgB k from msgD_length k L)
              have HDT := Lib.hid (msgD_lt k L)
              have hdb : dgB k ≤ 64 := by unfold dgB; split <;> (try split) <;> omega
              have hdb0 : 0 < dgB k := by unfold dgB; split <;> (try split) <;> omega
              have HDG := Lib.hid (fun (W : World) (hb : Below wr.heap.size wr W) => digest_any k hk aL L.length cL L W (HBL.out.below hb) ((HTAB.out.below HBE.out).below hb))
              clear HBL0 HO
              have hcase : (i = np) ∨ (i < np ∧ i = 200) := by omega
              rcases hcase with rfl | ⟨hq7, rfl⟩
              all_goals
                go_wp2_with fail
                refine HSM.out.mono ?_
                rintro e w5 ⟨v5, rfl, ho5, hb5⟩
                obtain ⟨aS, cS, rfl, HBS0, _⟩ := own_in ho5 HDT.out (by rw [HDL.out]; omega)
                have HBS := Lib.hid HBS0
                have HE5 := Lib.hid hb5
                have HH5 := Lib.hid (HH.out.below hb5)
                clear ho5 hb5 HBS0
                go_wp2_with fail
                refine (HDG.out w5 HE5.out).mono ?_
                rintro e w6 ⟨G6, t6, rfl, hG6, hb6, hbe6⟩
                have HE6 := Lib.hid (HE5.out.trans (hbe6.mono HE5.out.size))
                have HBS6 := Lib.hid (HBS.out.below hbe6)
                have HH6 := Lib.hid (HH5.out.below hbe6)
                have HR6 := Lib.hid (show ByteRow w6 (some ⟨G6, 0, none⟩) (dgB k) (msgD k L) from ⟨HDL.out, by unfold maxLen; omega, HDT.out, .inr ⟨G6, 0, rfl, fun i hi => by rw [Nat.zero_add]; exact hb6.nat i (by rw [HDL.out]; exact hi)⟩⟩)
                have HR5 := Lib.hid (show ByteRow w6 aS (dgB k) (msgD k L) by have := HBS6.out.1; rwa [HDL.out] at this)
                rw [HDL.out] at *
                have HSA := Lib.hid (same_eq aS (some ⟨G6, 0, none⟩) (dgB k) cS (dgB k) _ w6 HR5.out HR6.out)
                clear hb6 hbe6 HBS HBS6 HH5 HSM HDG
                go_wp2_with fail
                refine HSA.out.mono ?_
                rintro e w7 ⟨rfl, hbe7⟩
                have HH7 := Lib.hid (HH6.out.below hbe7)
                have HLN := Lib.hid (len_any g k L.length _ _ w7 HH7.out.2)
                have hbe := HBE.out.trans ((HE6.out.trans (hbe7.mono HE6.out.size)).mono HBE.out.size)
                go_wp2_with fail
                refine HLN.out.mono ?_
                rintro e w' ⟨rfl, rfl⟩
                go_wp2_with fail
                go_ret
                exact ⟨rfl, hbe⟩
end Go.Proofs.YtnikhnpigopihaaDoor
