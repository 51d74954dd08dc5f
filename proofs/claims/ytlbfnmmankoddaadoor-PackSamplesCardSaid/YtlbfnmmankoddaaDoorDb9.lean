/- The document's ball. Condition: the seed's bytes are there. -/
import Derived.Test.YtlbfnmmankoddaaDoorDu9
import Derived.Test.YtlbfnmmankoddaaDoorBa9
namespace Go.Proofs.YtlbfnmmankoddaaDoor
open Go.RowKit
set_option linter.unusedVariables false
set_option linter.unusedSimpArgs false
theorem own_row8 {w : World} {B n : Nat} {v : Value} {l : List Nat} (h : w.ownsRow B 5 1 v n (bytesV l)) (hn : 0 < n) : ∃ g c cs, v = .slice (some ⟨g, 0, none⟩) n c ∧ B ≤ g ∧ Blk w g 5 cs ∧ ∀ i, i < n → cs[i]? = some (.int .u8 (l.getD i 0 : Nat)) := by
  rcases h.2 with ⟨_, h0⟩ | ⟨g, cap, cur, rfl, hb, hg, _⟩
  · omega
  · refine ⟨g, cap, cur.toList, rfl, hb, by unfold Blk; exact hg, fun i hi => ?_⟩
    have h2 := (own_cells h).2 i hi
    rw [Nat.zero_add] at h2
    have hB : Blk w g 5 cur.toList := by unfold Blk; exact hg
    rw [← hB.cell i]; exact h2
theorem sg_bit (k : Nat) (L : List Nat) (t : Nat) (ht : t < 64) : sgN k L / 2 ^ t % 2 = stY k L (t / 8) / 2 ^ (t % 8) % 2 := by
  rw [← @bit_of (sgN k L) t]
  have h : byt (sgN k L) (t / 8) = stY k L (t / 8) := digs_get (s := 8) (x := stY k L) (n := 8) (fun i _ => stY_lt k L i) (by omega)
  rw [h]
theorem sh_bit (s r : Nat) : (((s : Int) / 2 ^ r).tmod 2 == 1) = decide (s / 2 ^ r % 2 = 1) := by
  have e : (s : Int) / 2 ^ r = ((s / 2 ^ r : Nat) : Int) := by simp
  rw [e]
  generalize s / 2 ^ r = x
  rw [show (x : Int).tmod 2 = ((x % 2 : Nat) : Int) from rfl]
  by_cases h : x % 2 = 1
  · rw [h]; rfl
  · rw [show x % 2 = 0 by omega]; rfl
set_option maxRecDepth 100000 in
set_option maxHeartbeats 4000000 in
theorem dBall_any (A : Option Addr) (n cp : Nat) (L : List Nat) (w : World) (hb : BIn w A n cp L) :
    Calls Tryd.prog 10 #[.slice A n cp] w fun e w' => e = .returned (.tuple #[.agg (iv (baP L)).toArray, .int .i64 (baE L : Nat)]) ∧ Below w.heap.size w w' := by
  have B1 := Lib.hid ((Blk.new w 25 (iv zerI)).alloc (.cells (iv zerI).toArray 25))
  have B2 := Lib.hid (Blk.new2 w (.cells (iv zerI).toArray 25) 25 (iv zerI))
  have BEL := Lib.hid (((Below.refl w.heap.size w).alloc (Nat.le_refl _) (.cells (iv zerI).toArray 25)).alloc (by simp) (.cells (iv zerI).toArray 25))
  have HZC := Lib.hid zc23
  have LZ := Lib.hid zerI_length
  have z23 := zero23
  have HLN := Lib.hid hb.1.1
  have HB := Lib.hid hb
  by_cases hn : n = 48
  · have hm : n ≤ 140737488351232 := by omega
    obtain ⟨er, her⟩ : ∃ er, baE L = er := ⟨_, rfl⟩
    obtain ⟨eP, heP⟩ : ∃ eP, baP L = eP := ⟨_, rfl⟩
    rw [her, heP]
    have hE1 : blE 5 L = er := by rw [← her]; exact (if_pos (by rw [HLN.out, hn])).symm
    have hP1 : blP 5 L = eP := by rw [← heP]; exact (if_pos (by rw [HLN.out, hn])).symm
    have HS00 := Lib.hid (show bS 5 L 0 = (207, zerI) from rfl)
    have HLEN := Lib.hid (fun n => bS_len 5 L n)
    have HBYa := Lib.hid (fun n hn h => @bl_yes 5 L n hn h)
    have HBNa := Lib.hid (fun n hn h hx => @bl_no 5 L n hn h hx)
    have HNXa := Lib.hid (fun n h hb => @bS_next 5 L n n (Nat.le_refl _) h (fun x h1 h2 => by omega) hb)
    have HSKa := Lib.hid (fun n (h : (bS 5 L n).1 < stY 5 L (8 + n)) => bS_skip 5 L n (n + 1) (by omega) (fun x h1 h2 => by
      obtain rfl : x = n := by omega
      exact h))
    rw [hE1, hP1] at HBYa HBNa
    have HSG := Lib.hid (sg_bit 5 L)
    have HBT := Lib.hid (built44 5 A n cp)
    have BS := Lib.hid (Blk.new ((w.alloc (.cells (iv zerI).toArray 25)).alloc (.cells (iv zerI).toArray 25)) 43 (rsV (.int .i64 (5 : Nat)) (.slice A n cp) (.bool false) (.int .i64 0) (zeros 25) (.int .i64 0)))
    have hsz2 : ((w.alloc (.cells (iv zerI).toArray 25)).alloc (.cells (iv zerI).toArray 25)).heap.size = w.heap.size + 2 := by simp
    rw [hsz2] at BS
    have BEL3 := Lib.hid (BEL.out.alloc BEL.out.size (.cells (rsV (.int .i64 (5 : Nat)) (.slice A n cp) (.bool false) (.int .i64 0) (zeros 25) (.int .i64 0)).toArray 43))
    have B1b := Lib.hid (B1.out.alloc (.cells (rsV (.int .i64 (5 : Nat)) (.slice A n cp) (.bool false) (.int .i64 0) (zeros 25) (.int .i64 0)).toArray 43))
    have B2b := Lib.hid (B2.out.alloc (.cells (rsV (.int .i64 (5 : Nat)) (.slice A n cp) (.bool false) (.int .i64 0) (zeros 25) (.int .i64 0)).toArray 43))
    rw [show ((5 : Nat) : Int) = 5 from rfl] at BEL3 B1b B2b BS
    generalize bS 5 L = B at *
    generalize zerI = Z at *
    clear her heP hE1 hP1 hb hsz2
    subst hn
    obtain ⟨W3, hW3⟩ : ∃ W3, ((w.alloc (.cells (iv Z).toArray 25)).alloc (.cells (iv Z).toArray 25)).alloc (.cells (rsV (.int .i64 5) (.slice A 48 cp) (.bool false) (.int .i64 0) (zeros 25) (.int .i64 0)).toArray 43) = W3 := ⟨_, rfl⟩
    have HR0 := Lib.hid (show Calls Tryd.prog 18 #[.pointer (some ⟨w.heap.size + 2, 0, none⟩), .int .i64 8] W3 (RefRd (w.heap.size + 2) 5 A 48 cp L 0 8 W3) from ref_read (w.heap.size + 2) 5 (by simp [IsKind]) A 48 cp L 0 8 (by omega) (by omega) W3 (by rw [← hW3]; exact HB.out.below BEL3.out) (.inl ⟨rfl, by rw [← hW3]; exact BS.out⟩))
    have BEL4 := Lib.hid (show Below w.heap.size w W3 by rw [← hW3]; exact BEL3.out)
    have B1c := Lib.hid (show Blk W3 w.heap.size 25 (iv Z) by rw [← hW3]; exact B1b.out)
    have B2c := Lib.hid (show Blk W3 (w.heap.size + 1) 25 (iv Z) by rw [← hW3]; exact B2b.out)
    have hz3 : w.heap.size + 2 < W3.heap.size := by rw [← hW3]; simp
    have HW3 := Lib.hid hW3
    clear hW3 B1 B2 BEL BEL3 B1b B2b BS
    go_enter Tryd.func10, Tryd.ntmps10
    go_wp2_with (first | (refine wpList_build_is rfl 43 _ rfl _ HBT.out ?_))
    clear z23
    rw [show ∀ x : Array Value, x = (rsV (.int .i64 5) (.slice A 48 cp) (.bool false) (.int .i64 0) (zeros 25) (.int .i64 0)).toArray → ((w.alloc (.cells (iv Z).toArray 25)).alloc (.cells (iv Z).toArray 25)).alloc (.cells x 43) = W3 from fun x hx => by rw [hx]; exact HW3.out]
    · clear HW3
      refine HR0.out.mono ?_
      rintro e w0 ⟨v, rfl, ho, hs0, hg0⟩
      obtain ⟨GS, cS, cs, rfl, hGS, hbS, hcs⟩ := own_row8 ho (by decide)
      have HCS := Lib.hid (show ∀ i, i < 8 → cs[i]? = some (.int .u8 (stY 5 L i : Nat)) from fun i hi => by
        have h := hcs i hi
        rw [stR_get 5 L _ 8 _ hi, Nat.zero_add] at h; exact h)
      have S0 := Lib.hid hbS
      have RS0 := Lib.hid hs0
      have C1 := Lib.hid (B1c.out.grown hg0 (by simp))
      have C2 := Lib.hid (B2c.out.grown hg0 (by simp))
      have BEL5 := Lib.hid (BEL4.out.grown hg0 (by have := BEL4.out.size; omega) (fun i hi => by injection hi with hi; omega))
      have hGS3 : w.heap.size + 3 ≤ GS := by omega
      clear ho hbS hs0 hg0 hcs HR0 BEL4 B1c B2c hz3 hGS
      go_wp2_with fail
      go_loopw [7, 8] (fun v7 v8 wr => ∃ n : Nat, n ≤ 1000 ∧ v8 = .int .i64 n ∧ v7 = .int .i64 ((B n).1 : Nat) ∧ Blk wr w.heap.size 25 (iv Z) ∧ Blk wr (w.heap.size + 1) 25 (iv (B n).2) ∧ Blk wr GS 5 cs ∧ RefSt (w.heap.size + 2) 5 A 48 cp L wr (8 + n) ∧ Below w.heap.size w wr) (fun _ v8 _ => 1000 - (intOf v8).toNat)
      case atStart => exact ⟨0, by omega, rfl, by rw [HS00.out]; rfl, C1.out, by rw [HS00.out]; exact C2.out, S0.out, RS0.out, BEL5.out⟩
      case round =>
        clear C1 C2 S0 RS0 BEL5
        obtain ⟨n, hn, rfl, rfl, k1, k2, kS, hs, hbel⟩ := hrel
        have J1 := Lib.hid k1
        have J2 := Lib.hid k2
        have JS := Lib.hid kS
        have HS := Lib.hid hs
        have hzw := k2.lt
        have hzS := kS.lt
        obtain ⟨hln, hl1, hl2⟩ := HLEN.out n
        have HBY := Lib.hid (fun h => HBYa.out n hn h)
        have HBN := Lib.hid (fun h hx => HBNa.out n hn h hx)
        have HNX := Lib.hid (HNXa.out n)
        have HSK := Lib.hid (HSKa.out n)
        obtain ⟨i, hi⟩ : ∃ i, (B n).1 = i := ⟨_, rfl⟩
        obtain ⟨p, hp⟩ : ∃ p, (B n).2 = p := ⟨_, rfl⟩
        rw [hi] at hl1 hl2 HBY HBN HNX HSK ⊢
        rw [hp] at J2 hln HBY HNX
        have LP := Lib.hid hln
        have HBI := Lib.hid (And.intro hi hp)
        clear k1 k2 kS hs hi hp hln
        by_cases h5 : n < 1000 ∧ i < 256
        · obtain ⟨h6, h7⟩ := h5
          have i1 : (n : Int) < 1000 := by omega
          have i2 : (i : Int) < 256 := by omega
          have HR := Lib.hid (show Calls Tryd.prog 18 #[.pointer (some ⟨w.heap.size + 2, 0, none⟩), .int .i64 1] wr (RefRd (w.heap.size + 2) 5 A 48 cp L (8 + n) 1 wr) from ref_read (w.heap.size + 2) 5 (by simp [IsKind]) A 48 cp L (8 + n) 1 (by omega) (by omega) wr (HB.out.below hbel) HS.out)
          go_wp2_with fail
          refine HR.out.mono ?_
          rintro e w2 ⟨v, rfl, ho, hs2, hg⟩
          obtain ⟨G, c, rfl, hG1, hG2, hce⟩ := own_three ho (by decide)
          have c0 := hce 0 (by decide)
          rw [stR_get 5 L _ 1 _ (by decide), Nat.add_zero] at c0
          have D1 := Lib.hid (J1.out.grown hg (by simp))
          have D2 := Lib.hid (J2.out.grown hg (by simp))
          have DS := Lib.hid (JS.out.grown hg (by simp; omega))
          have HS2 := Lib.hid hs2
          have bel2 := hbel.grown hg (by have := hbel.size; omega) (fun i hi => by injection hi with hi; omega)
          have hy1 := stY_lt 5 L (8 + n)
          generalize stY 5 L (8 + n) = b at *
          clear ho hs2 hg hce HR
          by_cases hx : b ≤ i
          · obtain ⟨t, rfl⟩ : ∃ t, i = 207 + t := ⟨i - 207, by omega⟩
            have HX := Lib.hid (HNX.out h7 hx)
            have ht2 : t < 49 := by omega
            have hsg := HSG.out t (by omega)
            have cb := HCS.out (t / 8) (by omega)
            have hs1 := stY_lt 5 L (t / 8)
            rw [show 207 + t - 207 = t by omega, hsg] at HX
            generalize stY 5 L (t / 8) = s at *
            have c1 := D2.out.iv b (by rw [LP.out]; omega)
            have c2 := D2.out.iv (207 + t) (by rw [LP.out]; exact h7)
            have f2 := D2.out.free (207 + t)
            have E2 := D2.out.ivSet (207 + t) (p.getD b 0)
            have HE2 := Lib.hid E2
            have c3 := E2.iv b (by rw [List.length_set, LP.out]; omega)
            have f3 := E2.free b
            have HF2 := Lib.hid (E2.ivSet b 1)
            have c4 := HF2.out.iv b (by rw [List.length_set, List.length_set, LP.out]; omega)
            have f4 := HF2.out.free b
            have HG2 := Lib.hid (HF2.out.ivSet b 8380416)
            rw [List.set_set] at HG2
            generalize p.getD b 0 = z at *
            have D1b := Lib.hid ((D1.out.other ⟨w.heap.size + 1, 207 + t, none⟩ (.int .i32 z) (by simp)).other ⟨w.heap.size + 1, b, none⟩ (.int .i32 1) (by simp))
            have DSb := Lib.hid ((DS.out.other ⟨w.heap.size + 1, 207 + t, none⟩ (.int .i32 z) (by simp; omega)).other ⟨w.heap.size + 1, b, none⟩ (.int .i32 1) (by simp; omega))
            have RSb := Lib.hid ((HS2.out.of (w' := w2.setCell ⟨w.heap.size + 1, 207 + t, none⟩ (.int .i32 z)) (heap_setCell_other w2 ⟨w.heap.size + 1, 207 + t, none⟩ _ _ (by simp))).of (w' := (w2.setCell ⟨w.heap.size + 1, 207 + t, none⟩ (.int .i32 z)).setCell ⟨w.heap.size + 1, b, none⟩ (.int .i32 1)) (heap_setCell_other (w2.setCell ⟨w.heap.size + 1, 207 + t, none⟩ (.int .i32 z)) ⟨w.heap.size + 1, b, none⟩ _ _ (by simp)))
            have belb := Lib.hid ((bel2.setCell (p := ⟨w.heap.size + 1, 207 + t, none⟩) (by simp) (.int .i32 z)).setCell (p := ⟨w.heap.size + 1, b, none⟩) (by simp) (.int .i32 1))
            have cS8 := DSb.out.cell (t / 8)
            rw [cb] at cS8
            clear E2 hsg
            have hsh := sh_bit s (t % 8)
            by_cases hsb : s / 2 ^ (t % 8) % 2 = 1
            · rw [if_pos hsb] at HX
              rw [decide_eq_true hsb] at hsh
              have D1d := Lib.hid (D1b.out.other ⟨w.heap.size + 1, b, none⟩ (.int .i32 8380416) (by simp))
              have DSd := Lib.hid (DSb.out.other ⟨w.heap.size + 1, b, none⟩ (.int .i32 8380416) (by simp; omega))
              have RSd := Lib.hid (RSb.out.of (w' := ((w2.setCell ⟨w.heap.size + 1, 207 + t, none⟩ (.int .i32 z)).setCell ⟨w.heap.size + 1, b, none⟩ (.int .i32 1)).setCell ⟨w.heap.size + 1, b, none⟩ (.int .i32 8380416)) (heap_setCell_other ((w2.setCell ⟨w.heap.size + 1, 207 + t, none⟩ (.int .i32 z)).setCell ⟨w.heap.size + 1, b, none⟩ (.int .i32 1)) ⟨w.heap.size + 1, b, none⟩ _ _ (by simp)))
              have beld := Lib.hid (belb.out.setCell (p := ⟨w.heap.size + 1, b, none⟩) (by simp) (.int .i32 8380416))
              clear hsb
              go_wp2_with fail
              go_roundw
              case rel => exact ⟨n + 1, by omega, by go_num, by rw [HX.out]; go_num, D1d.out, by rw [HX.out]; exact HG2.out, DSd.out, RSd.out, beld.out⟩
              case measure => simp [intOf]; omega
            · rw [if_neg hsb] at HX
              rw [decide_eq_false hsb] at hsh
              clear hsb
              go_wp2_with fail
              go_roundw
              case rel => exact ⟨n + 1, by omega, by go_num, by rw [HX.out]; go_num, D1b.out, by rw [HX.out]; exact HF2.out, DSb.out, RSb.out, belb.out⟩
              case measure => simp [intOf]; omega
          · have hx2 : (i : Int) < b := by omega
            have HN2 := Lib.hid (HSK.out (by omega))
            clear hx
            go_wp2_with fail
            go_roundw
            case rel => exact ⟨n + 1, by omega, by go_num, by rw [HN2.out, HBI.out.1], D1.out, by rw [HN2.out, HBI.out.2]; exact D2.out, DS.out, HS2.out, bel2⟩
            case measure => simp [intOf]; omega
        · have hend : n = 1000 ∨ i = 256 := by omega
          clear h5
          by_cases hm6 : i < 256
          · obtain rfl : n = 1000 := by omega
            obtain ⟨rfl, rfl⟩ := HBN.out hm6 (fun x h1 h2 => by omega)
            have i2 : (i : Int) < 256 := by omega
            clear hend
            go_wp2_with (first | (refine wpList_store_row rfl 25 (.tmp 2) (.tmp 62) rfl w.heap.size (iv eP).toArray rfl (congrArg Value.agg HZC.out) 25 (iv eP).toArray J1.out (j23 LZ.out) rfl (iv_all _) ?_))
            have j2 := J1.out.setRow (iv eP)
            have hb9 := below_setRow' hbel (show w.heap.size ≤ w.heap.size by omega) (iv eP).toArray
            refine bodyPost_ret (v := .tuple #[.agg (iv eP).toArray, .int .i64 94]) ?_ rfl ⟨rfl, hb9⟩
            exact results_two Tryd.results10 _ _ w.heap.size 25 _ (0, 0) _ _ rfl rfl j2 Tryd.underlying25 rfl (j23 LZ.out)
          · obtain rfl : i = 256 := by omega
            obtain ⟨rfl, hep⟩ := HBY.out rfl
            subst hep
            clear hend hm6
            by_cases hj6 : n < 1000
            · have i1 : (n : Int) < 1000 := by omega
              clear hj6
              go_wp2_with (first | (refine wpList_load_row rfl 25 (.tmp 4) rfl (w.heap.size + 1) rfl 25 (iv eP).toArray (0, 0) _ J2.out Tryd.underlying25 rfl (j23 LP.out) ?_) | (refine wpList_store_row rfl 25 (.tmp 2) (.tmp 63) rfl w.heap.size (iv eP).toArray rfl rfl 25 (iv Z).toArray J1.out (j23 LP.out) (by rw [iv_size, iv_size, LZ.out, LP.out]) (iv_all _) ?_))
              have j2 := J1.out.setRow (iv eP)
              have hb9 := below_setRow' hbel (show w.heap.size ≤ w.heap.size by omega) (iv eP).toArray
              refine bodyPost_ret (v := .tuple #[.agg (iv eP).toArray, .int .i64 0]) ?_ rfl ⟨rfl, hb9⟩
              exact results_two Tryd.results10 _ _ w.heap.size 25 _ (0, 0) _ _ rfl rfl j2 Tryd.underlying25 rfl (j23 LP.out)
            · obtain rfl : n = 1000 := by omega
              clear hj6
              go_wp2_with (first | (refine wpList_load_row rfl 25 (.tmp 4) rfl (w.heap.size + 1) rfl 25 (iv eP).toArray (0, 0) _ J2.out Tryd.underlying25 rfl (j23 LP.out) ?_) | (refine wpList_store_row rfl 25 (.tmp 2) (.tmp 63) rfl w.heap.size (iv eP).toArray rfl rfl 25 (iv Z).toArray J1.out (j23 LP.out) (by rw [iv_size, iv_size, LZ.out, LP.out]) (iv_all _) ?_))
              have j2 := J1.out.setRow (iv eP)
              have hb9 := below_setRow' hbel (show w.heap.size ≤ w.heap.size by omega) (iv eP).toArray
              refine bodyPost_ret (v := .tuple #[.agg (iv eP).toArray, .int .i64 0]) ?_ rfl ⟨rfl, hb9⟩
              exact results_two Tryd.results10 _ _ w.heap.size 25 _ (0, 0) _ _ rfl rfl j2 Tryd.underlying25 rfl (j23 LP.out)
    · rfl
  · have e1 : baE L = 91 := if_neg (by rw [HLN.out]; exact hn)
    have e2 : baP L = zerI := if_neg (by rw [HLN.out]; exact hn)
    rw [e1, e2]
    have hne : ((n : Int) != 48) = true := by simp; omega
    generalize zerI = Z at *
    clear hb e1 e2 hn
    go_enter Tryd.func10, Tryd.ntmps10
    go_wp2_with (first | (refine wpList_load_row rfl 25 (.tmp 4) rfl (w.heap.size + 1) rfl 25 (iv Z).toArray (0, 0) _ B2.out Tryd.underlying25 rfl (j23 LZ.out) ?_) | (refine wpList_store_row rfl 25 (.tmp 2) (.tmp 14) rfl w.heap.size (iv Z).toArray rfl rfl 25 (iv Z).toArray B1.out (j23 LZ.out) rfl (iv_all _) ?_))
    have j2 := B1.out.setRow (iv Z)
    have hb9 := below_setRow' BEL.out (show w.heap.size ≤ w.heap.size by omega) (iv Z).toArray
    refine bodyPost_ret (v := .tuple #[.agg (iv Z).toArray, .int .i64 91]) ?_ rfl ⟨rfl, hb9⟩
    exact results_two Tryd.results10 _ _ w.heap.size 25 _ (0, 0) _ _ rfl rfl j2 Tryd.underlying25 rfl (j23 LZ.out)
end Go.Proofs.YtlbfnmmankoddaaDoor
