/- Content.Full. Condition: the list of blocks is in reach. -/
import Derived.Test.YtlgpaglkhgomiaaRl
namespace Go.Proofs.Ytlgpaglkhgomiaa
open Go.RowKit
set_option linter.unusedVariables false
set_option maxRecDepth 100000
set_option linter.unusedSimpArgs false
theorem blk_own {w : World} {B g : Nat} {l : List Nat} (h : Blk w g 5 (natsV .u8 l)) (hl : l.length = 512) (hg : B ≤ g) : w.ownsRow B 5 1 (.slice (some ⟨g, 0, none⟩) 512 512) 512 (bytesV l) :=
  ⟨by simp [bytesV, hl], .inr ⟨g, 512, (natsV .u8 l).toArray, rfl, hg, h, Nat.le_refl _, by unfold maxLen; omega, by simp [natsV, hl], by rw [List.take_of_length_le (by simp [natsV, hl])]; rfl⟩⟩
theorem lown_snoc {w w' : World} {base n c : Nat} {a : Option Addr} {v' : Value} {bs : List BlkR} {y : BlkR} (h : LOwn w base (.slice a n c) bs) (hd : DOwn w base y) (hy : I64 y.N) (hg : w.grownBy w' (Value.slice a n c).ownBlock) (ho : w'.ownsRow base 62 2 v' (bs ++ [y]).length (rowC (bs ++ [y]))) : LOwn w' base v' (bs ++ [y]) := by
  have hf : Fr w w' (fun j => (Value.slice a n c).ownBlock = some j) := Fr.grown hg (fun j e _ => e)
  have hk : ∀ z : BlkR, DOwn w base z → DOwn w' base z := fun z hz => hz.fr hf (fun j hj e => by
    obtain ⟨c1, hc1, _⟩ := own_blk hz.1 hj
    obtain ⟨c2, hc2, _⟩ := own_blk h.1 e
    exact blk_ne hc1 hc2 (by decide) rfl)
  refine ⟨ho, fun z hz => ?_⟩
  rcases List.mem_append.1 hz with hz | hz
  · exact ⟨hk z (h.2 z hz).1, (h.2 z hz).2⟩
  · obtain rfl := List.mem_singleton.1 hz
    exact ⟨hk z hd, hy⟩
/-- what a content says -/
def fullK (raw : Bool) (bs : List BlkR) : List (Int × List Nat) := if raw = true then bs.map BlkR.key else bs.map fun x => (x.N, fillL x.l)
def FullIs (raw : Bool) (bs : List BlkR) (w : World) (e : Ending) (w' : World) : Prop := ∃ a n c bs', e = .returned (.slice a n c) ∧ LIn w' a n bs' ∧ n ≤ 4398046510976 ∧ bs'.map BlkR.key = fullK raw bs ∧ Below w.heap.size w w'
set_option maxHeartbeats 6400000 in
theorem full_any (cb : Int) (P : Option Addr) (k cp : Nat) (raw : Bool) (bs : List BlkR) (w : World) (hin : LIn w P k bs) (hk : k ≤ 4398046510976) :
    Calls Try.prog 8 #[.agg #[.int .i64 cb, .slice P k cp, .bool raw]] w (FullIs raw bs w) := by
  have HIN := Lib.hid hin
  have HR0 := Lib.hid (Blk.new w 24 [.int .i64 cb, .slice P k cp, .bool raw])
  have HB0 := Lib.hid ((Below.refl w.heap.size w).alloc (Nat.le_refl _) (.cells #[.int .i64 cb, .slice P k cp, .bool raw] 24))
  have HBN := Lib.hid (hin.below HB0.out)
  clear hin
  cases raw
  · go_enter Try.func8, Try.ntmps8
    go_wp2
    go_loopw [3, 4] (fun v3 v4 wr => ∃ (i : Nat) (a3 : Option Addr) (n3 c3 : Nat) (bsI : List BlkR), v4 = .int .i64 i ∧ i ≤ k ∧ v3 = .slice a3 n3 c3 ∧ bsI.length = n3 ∧ n3 ≤ i ∧ LOwn wr w.heap.size (.slice a3 n3 c3) bsI ∧ bsI.map BlkR.key = (bs.take i).map (fun x => (x.N, fillL x.l)) ∧ Blk wr w.heap.size 24 [.int .i64 cb, .slice P k cp, .bool false] ∧ Below w.heap.size w wr) (fun _ v4 _ => k - (intOf v4).toNat)
    case atStart => exact ⟨0, none, 0, 0, [], rfl, Nat.zero_le _, rfl, rfl, Nat.le_refl _, ⟨⟨rfl, .inl ⟨rfl, rfl⟩⟩, fun x hx => (by cases hx)⟩, rfl, HR0.out, HB0.out⟩
    case round =>
      obtain ⟨i, a3, n3, c3, bsI, rfl, hi, rfl, hn3, hni, hlo, hky, hrr, hbel⟩ := hrel
      have HN3 := Lib.hid hn3
      have HLO := Lib.hid hlo
      have HKY := Lib.hid hky
      have HRR := Lib.hid hrr
      have HBL := Lib.hid hbel
      have c1 := hrr.cell 1
      clear hn3 hlo hky hrr hbel HR0 HB0 HBN
      by_cases hik : i < k
      · have hik' : (i : Int) < (k : Int) := by omega
        obtain ⟨b, o, rfl, hcell⟩ := HIN.out.2.2.resolve_left (by omega)
        obtain ⟨x, hx⟩ : ∃ x, bs[i]? = some x := ⟨_, List.getElem?_eq_getElem (by rw [HIN.out.1]; exact hik)⟩
        have hxm := HIN.out.2.1 x (List.mem_of_getElem? hx)
        have HK := Lib.hid (show ∀ w_, Below w.heap.size w w_ → w_.cell? ⟨b, o + i * 2, none⟩ = some (.int .i64 x.N) ∧ w_.cell? ⟨b, o + i * 2 + 1, none⟩ = some (.slice x.a x.n x.c) from fun w_ hb_ => ⟨range_cell (range_gr (hcell i x hx) hb_) (j := 0) rfl, range_cell (range_gr (hcell i x hx) hb_) (j := 1) rfl⟩)
        have HBX := Lib.hid hxm.1
        have hxN := hxm.2
        have HX := Lib.hid hx
        clear hcell hx hxm
        go_upto_region 7 with (fail)
        refine wp_region_G (fun w_ => Below w.heap.size w w_ ∧ Blk w_ w.heap.size 24 [.int .i64 cb, .slice (some ⟨b, o, none⟩) k cp, .bool false]) 17 (by kernel_rfl) ⟨gr_bel HBL.out (Gr.drew wr), HRR.out.drew⟩ ?_
        refine wpAnyG_take (oi := _) (v := _) (fun _ _ hS_ hb_ => ⟨gr_bel hS_.1 hb_, hS_.2.gr hb_⟩) (i := 0) rfl (by kernel_rfl) (fun _ _ _ h => h) (pureG (by rfl) (by intro w; go_simp; first | done | with_reducible rfl)) ?_
        try simp only [Act.put, List.getElem_toArray, List.getElem_cons_succ, List.getElem_cons_zero, List.setIfInBounds_toArray, List.set_cons_zero, List.set_cons_succ]
        refine wpAnyG_take (oi := _) (v := _) (fun _ _ hS_ hb_ => ⟨gr_bel hS_.1 hb_, hS_.2.gr hb_⟩) (i := 1) rfl (by kernel_rfl) (fun _ _ _ h => h) (pureG (by rfl) (by intro w; go_simp; first | done | with_reducible rfl)) ?_
        try simp only [Act.put, List.getElem_toArray, List.getElem_cons_succ, List.getElem_cons_zero, List.setIfInBounds_toArray, List.set_cons_zero, List.set_cons_succ]
        refine wpAnyG_take (oi := _) (v := _) (fun _ _ hS_ hb_ => ⟨gr_bel hS_.1 hb_, hS_.2.gr hb_⟩) (i := 2) rfl (by kernel_rfl) (fun _ _ _ h => h) (worldG (by rfl) (by intro w_ hS_; have q0 := hS_.2.cell 1; go_simp; first | done | with_reducible rfl)) ?_
        try simp only [Act.put, List.getElem_toArray, List.getElem_cons_succ, List.getElem_cons_zero, List.setIfInBounds_toArray, List.set_cons_zero, List.set_cons_succ]
        refine wpAnyG_take (oi := _) (v := _) (fun _ _ hS_ hb_ => ⟨gr_bel hS_.1 hb_, hS_.2.gr hb_⟩) (i := 3) rfl (by kernel_rfl) (fun _ _ _ h => h) (pureG (by rfl) (by intro w; go_simp; first | done | with_reducible rfl)) ?_
        try simp only [Act.put, List.getElem_toArray, List.getElem_cons_succ, List.getElem_cons_zero, List.setIfInBounds_toArray, List.set_cons_zero, List.set_cons_succ]
        refine wpAnyG_take (oi := _) (v := _) (fun _ _ hS_ hb_ => ⟨gr_bel hS_.1 hb_, hS_.2.gr hb_⟩) (i := 4) rfl (by kernel_rfl) (fun _ _ _ h => h) (pureG (by rfl) (by intro w; go_simp; first | done | with_reducible rfl)) ?_
        try simp only [Act.put, List.getElem_toArray, List.getElem_cons_succ, List.getElem_cons_zero, List.setIfInBounds_toArray, List.set_cons_zero, List.set_cons_succ]
        refine wpAnyG_take (oi := _) (v := _) (fun _ _ hS_ hb_ => ⟨gr_bel hS_.1 hb_, hS_.2.gr hb_⟩) (i := 5) rfl (by kernel_rfl) (fun _ _ _ h => h) (pureG (by rfl) (by intro w; go_simp; first | done | with_reducible rfl)) ?_
        try simp only [Act.put, List.getElem_toArray, List.getElem_cons_succ, List.getElem_cons_zero, List.setIfInBounds_toArray, List.set_cons_zero, List.set_cons_succ]
        refine wpAnyG_take (oi := _) (v := _) (fun _ _ hS_ hb_ => ⟨gr_bel hS_.1 hb_, hS_.2.gr hb_⟩) (i := 6) rfl (by kernel_rfl) (fun _ _ _ h => h) (worldG (by rfl) (by intro w_ hS_; have q0 := (HK.out w_ hS_.1).1; go_simp; first | done | with_reducible rfl)) ?_
        try simp only [Act.put, List.getElem_toArray, List.getElem_cons_succ, List.getElem_cons_zero, List.setIfInBounds_toArray, List.set_cons_zero, List.set_cons_succ]
        refine wpAnyG_take (oi := _) (v := _) (fun _ _ hS_ hb_ => ⟨gr_bel hS_.1 hb_, hS_.2.gr hb_⟩) (i := 7) rfl (by kernel_rfl) (fun _ _ _ h => h) (pureG (by rfl) (by intro w; go_simp; first | done | with_reducible rfl)) ?_
        try simp only [Act.put, List.getElem_toArray, List.getElem_cons_succ, List.getElem_cons_zero, List.setIfInBounds_toArray, List.set_cons_zero, List.set_cons_succ]
        refine wpAnyG_take (oi := _) (v := _) (fun _ _ hS_ hb_ => ⟨gr_bel hS_.1 hb_, hS_.2.gr hb_⟩) (i := 8) rfl (by kernel_rfl) (fun _ _ _ h => h) (worldG (by rfl) (by intro w_ hS_; have q0 := hS_.2.cell 1; go_simp; first | done | with_reducible rfl)) ?_
        try simp only [Act.put, List.getElem_toArray, List.getElem_cons_succ, List.getElem_cons_zero, List.setIfInBounds_toArray, List.set_cons_zero, List.set_cons_succ]
        refine wpAnyG_take (oi := _) (v := _) (fun _ _ hS_ hb_ => ⟨gr_bel hS_.1 hb_, hS_.2.gr hb_⟩) (i := 9) rfl (by kernel_rfl) (fun _ _ _ h => h) (pureG (by rfl) (by intro w; go_simp; first | done | with_reducible rfl)) ?_
        try simp only [Act.put, List.getElem_toArray, List.getElem_cons_succ, List.getElem_cons_zero, List.setIfInBounds_toArray, List.set_cons_zero, List.set_cons_succ]
        refine wpAnyG_take (oi := _) (v := _) (fun _ _ hS_ hb_ => ⟨gr_bel hS_.1 hb_, hS_.2.gr hb_⟩) (i := 10) rfl (by kernel_rfl) (fun _ _ _ h => h) (pureG (by rfl) (by intro w; go_simp; first | done | with_reducible rfl)) ?_
        try simp only [Act.put, List.getElem_toArray, List.getElem_cons_succ, List.getElem_cons_zero, List.setIfInBounds_toArray, List.set_cons_zero, List.set_cons_succ]
        refine wpAnyG_take (oi := _) (v := _) (fun _ _ hS_ hb_ => ⟨gr_bel hS_.1 hb_, hS_.2.gr hb_⟩) (i := 11) rfl (by kernel_rfl) (fun _ _ _ h => h) (pureG (by rfl) (by intro w; go_simp; first | done | with_reducible rfl)) ?_
        try simp only [Act.put, List.getElem_toArray, List.getElem_cons_succ, List.getElem_cons_zero, List.setIfInBounds_toArray, List.set_cons_zero, List.set_cons_succ]
        refine wpAnyG_take (oi := _) (v := _) (fun _ _ hS_ hb_ => ⟨gr_bel hS_.1 hb_, hS_.2.gr hb_⟩) (i := 12) rfl (by kernel_rfl) (fun _ _ _ h => h) (worldG (by rfl) (by intro w_ hS_; have q0 := (HK.out w_ hS_.1).2; go_simp; first | done | with_reducible rfl)) ?_
        try simp only [Act.put, List.getElem_toArray, List.getElem_cons_succ, List.getElem_cons_zero, List.setIfInBounds_toArray, List.set_cons_zero, List.set_cons_succ]
        refine wpAnyG_only (i := 13) (by kernel_rfl) (fun W1 hW1 hS1 => ?_)
        refine wpOp_callE (i := 13) rfl (by rfl) rfl Try.func21 (by kernel_rfl) (by kernel_rfl) #[.slice x.a x.n x.c] (by simp [Act.eval]) ((filled_any x.a x.n x.c x.l W1 (HBX.out.below hS1.1)).mono ?_)
        rintro e W2 ⟨gD, rfl, hgD, hbD, hb2⟩
        refine ⟨_, rfl, .inr ⟨gr_bel hS1.1 hb2, hS1.2.gr hb2⟩, ?_⟩
        try simp only [Act.put, List.getElem_toArray, List.getElem_cons_succ, List.getElem_cons_zero, List.setIfInBounds_toArray, List.set_cons_zero, List.set_cons_succ]
        refine wpAnyG_run (i := 14) (v := .agg #[.int .i64 x.N, .slice (some ⟨gD, 0, none⟩) 512 512]) (by kernel_rfl) rfl (by rfl) (by intro w_ hS_; go_simp; first | done | with_reducible rfl) ?_
        try simp only [Act.put, List.getElem_toArray, List.getElem_cons_succ, List.getElem_cons_zero, List.setIfInBounds_toArray, List.set_cons_zero, List.set_cons_succ]
        refine wpAnyG_only (i := 15) (by kernel_rfl) (fun W4 hW4 hS4 => ?_)
        refine wpOp_run rfl (by rfl) (v := .slice (some ⟨W4.heap.size, 0, none⟩) 1 1) (W2 := W4.alloc (.cells #[.int .i64 x.N, .slice (some ⟨gD, 0, none⟩) 512 512] 62)) (by go_simp; first | done | with_reducible rfl) ⟨.inr ⟨gr_bel hS4.1 (Gr.alloc _ _), hS4.2.gr (Gr.alloc _ _)⟩, ?_⟩
        try simp only [Act.put, List.getElem_toArray, List.getElem_cons_succ, List.getElem_cons_zero, List.setIfInBounds_toArray, List.set_cons_zero, List.set_cons_succ]
        refine wpAnyG_only (i := 16) (by kernel_rfl) (fun W5 hW5 hS5 => ?_)
        have hG25 : Gr W2 W5 := (hW4.trans (Gr.alloc W4 _)).trans hW5
        have hG05 : Gr wr W5 := (((Gr.drew wr).trans hW1).trans hb2).trans hG25
        obtain ⟨y, hy⟩ : ∃ y : BlkR, y = ⟨x.N, some ⟨gD, 0, none⟩, 512, 512, fillL x.l⟩ := ⟨_, rfl⟩
        have hN5 : Blk W5 W4.heap.size 62 y.cs := by rw [hy]; exact (Blk.new W4 62 _).gr hW5
        have hlo5 := HLO.out.below hG05
        refine wpOp_append_blks rfl (by rfl) (.tmp 16) (.tmp 31) rfl w.heap.size (.slice a3 n3 c3) bsI rfl hlo5.1 (some ⟨W4.heap.size, 0, none⟩) 1 1 [y] rfl (own_cin1 hN5) (fun e => by cases e) (by have := HN3.out; omega) hS5.1.size (fun vO W6 hoO hgO => ?_)
        have hnr : ∀ j, (Value.slice a3 n3 c3).ownBlock = some j → w.heap.size ≤ j ∧ j ≠ w.heap.size := fun j hj => by
          obtain ⟨cs2, hc2, _⟩ := own_blk hlo5.1 hj
          exact ⟨own_ge hlo5.1 hj, blk_ne hc2 hS5.2 (by decide)⟩
        have hb6 : Below w.heap.size w W6 := ⟨hgO.os.trans hS5.1.os, hgO.tape.trans hS5.1.tape, hgO.output.trans hS5.1.output, Nat.le_trans hS5.1.size hgO.size, fun j hj => (hgO.block j (Nat.lt_of_lt_of_le hj hS5.1.size) (fun e => by have := hnr j e.symm; omega)).trans (hS5.1.block j hj)⟩
        have hr6 : Blk W6 w.heap.size 24 [.int .i64 cb, .slice (some ⟨b, o, none⟩) k cp, .bool false] := Blk.grown hS5.2 hgO (fun e => (hnr _ e.symm).2 rfl)
        obtain ⟨nO, hnO⟩ : ∃ nO, (bsI ++ [y]).length = nO := ⟨_, rfl⟩
        have hD5 : DOwn W5 w.heap.size y := by
          rw [hy]
          exact ⟨own_low (blk_own (hbD.gr hG25) (fillL_is HBX.out.1.2.2.1).1 hgD) hS1.1.size, (fillL_is HBX.out.1.2.2.1).2, by show 512 ≤ _; omega⟩
        have hlo6 := lown_snoc hlo5 hD5 (by rw [hy]; exact hxN) hgO hoO
        rw [hnO] at hoO
        obtain ⟨aO, cO, rfl⟩ : ∃ aO cO, vO = .slice aO nO cO := by
          rcases hoO.2 with ⟨rfl, h0⟩ | ⟨g, cap, cur, rfl, _⟩
          · exact ⟨none, 0, by rw [h0]⟩
          · exact ⟨_, _, rfl⟩
        refine ⟨.inr ⟨hb6, hr6⟩, ?_⟩
        try simp only [Act.put, List.getElem_toArray, List.getElem_cons_succ, List.getElem_cons_zero, List.setIfInBounds_toArray, List.set_cons_zero, List.set_cons_succ]
        refine wpAnyG_run (i := 17) (v := .slice aO nO cO) (by kernel_rfl) rfl (by rfl) (by intro w_ hS_; go_simp; first | done | with_reducible rfl) ?_
        try simp only [Act.put, List.getElem_toArray, List.getElem_cons_succ, List.getElem_cons_zero, List.setIfInBounds_toArray, List.set_cons_zero, List.set_cons_succ]
        refine wpAnyG_done (by kernel_rfl) (fun W9 hW9 => ?_) _
        have HLO9 := Lib.hid (hlo6.below hW9)
        have HB9 := Lib.hid (gr_bel hb6 hW9)
        have HR9 := Lib.hid (hr6.gr hW9)
        have HYK := Lib.hid (show y.key = (x.N, fillL x.l) from by rw [hy]; rfl)
        have HNO := Lib.hid hnO
        have hno2 : nO ≤ i + 1 := by rw [← hnO]; simp; have := HN3.out; omega
        clear hgO hnr hlo5 hlo6 hoO hD5 hnO hN5 hG05 hG25
        go_wp2_with fail
        go_roundw
        case rel => exact ⟨i + 1, aO, nO, cO, bsI ++ [y], by go_num, by omega, rfl, HNO.out, hno2, HLO9.out, by rw [List.take_add_one, HX.out, List.map_append, List.map_append, HKY.out]; simp [HYK.out], HR9.out, HB9.out⟩
        case measure => simp [intOf]; omega
      · obtain rfl : i = k := by omega
        have HL := Lib.hid (own_lin (show wr.ownsRow w.heap.size 62 2 (.slice a3 n3 c3) n3 (rowC bsI) from by have q := HLO.out.1; rw [HN3.out] at q; exact q) HN3.out HLO.out.2)
        have HKE := Lib.hid (show bsI.map BlkR.key = fullK false bs from by rw [HKY.out, List.take_of_length_le (by rw [HIN.out.1]; exact Nat.le_refl _)]; rfl)
        clear hik
        go_wp2_with fail
        go_ret
        exact ⟨a3, n3, c3, bsI, rfl, HL.out, by omega, HKE.out, HBL.out⟩
  · go_enter Try.func8, Try.ntmps8
    go_wp2
    go_ret
    exact ⟨P, k, cp, bs, rfl, HBN.out, hk, rfl, HB0.out⟩
end Go.Proofs.Ytlgpaglkhgomiaa
