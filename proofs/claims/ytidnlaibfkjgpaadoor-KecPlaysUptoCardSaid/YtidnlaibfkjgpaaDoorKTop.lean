/- A new sponge, SHA-3 at once, and a known digest: the project's functions answer the plain ones. Condition: the table of constants. -/
import Derived.Test.YtidnlaibfkjgpaaDoorKGive
namespace Go.Proofs.YtidnlaibfkjgpaaDoor
open Go.RowKit
set_option linter.unusedVariables false
theorem built76 (k l : Int) : Tryd.prog.built 76 [(0, .int .i64 k), (4, .int .i64 l)] = some (Value.int .i64 k :: (natsV .u64 (zeros 25) ++ [.int .i64 0, .bool false, .int .i64 l])).toArray := by kernel_rfl
theorem zeros_good : Good (zeros 25) := ⟨by simp [zeros], fun x hx => by rw [List.eq_of_mem_replicate hx]; decide⟩
/-- what a call answers that makes a sponge -/
def SpNew (k : Nat) (w : World) (e : Ending) (w' : World) : Prop := ∃ g, e = .returned (.pointer (some ⟨g, 0, none⟩)) ∧ w.heap.size ≤ g ∧ SpAt w' g k 0 false (sizeK k) (zeros 25) ∧ Below w.heap.size w w'
set_option maxRecDepth 100000 in
set_option maxHeartbeats 800000 in
theorem begin_any (k : Nat) (hk : IsKind k) (w : World) (htab : Tabs w) : Calls Tryd.prog 34 #[.int .i64 (k : Nat)] w (SpNew k w) := by
  have HS := Lib.hid (fun w => sizeOf_any k hk w)
  have HB := Lib.hid (built76 k (sizeK k))
  have hsz := htab.size
  have HK := Lib.hid hk
  have hr := rateK_le hk
  clear htab hk
  go_enter Tryd.func34, Tryd.ntmps34
  go_wp2_with fail
  refine (HS.out _).mono ?_
  rintro e w' ⟨rfl, rfl⟩
  clear HS
  go_wp2_with (refine wpList_build_is rfl 76 _ rfl (spV k 0 false (sizeK k) (zeros 25)).toArray ?hb ?_)
  case hb => exact HB.out
  clear HB
  go_ret
  exact ⟨w.heap.size, rfl, Nat.le_refl _, ⟨HK.out, zeros_good, by omega, hsz, Blk.new w 76 (spV k 0 false (sizeK k) (zeros 25))⟩, (Below.refl _ _).alloc (Nat.le_refl _) _⟩
/-- the first n bytes that a kind gives out -/
def allK (k : Nat) (l : List Nat) (n : Nat) : List Nat := sqB (rateK k) (endN k (absL (rateK k) (zeros 25, 0) l), 0) n
theorem bin_block {w : World} {a : Option Addr} {n c : Nat} {l : List Nat} (h : BIn w a n c l) : ∀ b, a = some b → 0 < n → b.block < w.heap.size := by
  rintro b rfl hn
  obtain ⟨b', off, he, hc⟩ := h.1.2.2.2.resolve_left (by omega)
  injection he with he
  subst he
  exact World.block_lt_of_cell? w _ (hc 0 hn)
/-- so many bytes in new memory -/
def RowIs (n : Nat) (l : List Nat) (w : World) (e : Ending) (w' : World) : Prop := ∃ G, e = .returned (.slice (some ⟨G, 0, none⟩) n n) ∧ w.heap.size ≤ G ∧ Blk w' G 5 (natsV .u8 l) ∧ Below w.heap.size w w'
theorem allK_length (k : Nat) (l : List Nat) (n : Nat) : (allK k l n).length = n := sqB_length _ _ _
theorem allK_lt (k : Nat) (l : List Nat) (n : Nat) : ∀ x ∈ allK k l n, x < 256 := sqB_lt _ _ _
set_option maxHeartbeats 1600000 in
theorem sumOf_any (k n : Nat) (hk : IsKind k) (hn : sizeK k = (n : Int)) (a : Option Addr) (m c : Nat) (l : List Nat) (w : World) (hb : BIn w a m c l) (htab : Tabs w) :
    Calls Tryd.prog 32 #[.int .i64 (k : Nat), .slice a m c] w (RowIs n (allK k l n) w) := by
  have HBG := Lib.hid (begin_any k hk w htab)
  have HB := Lib.hid hb
  have HTAB := Lib.hid htab
  have HBB := Lib.hid (bin_block hb)
  have HSZ := Lib.hid (fun w => sizeOf_any k hk w)
  have hn64 : n ≤ 64 := by
    have : sizeK k ≤ 64 := by unfold sizeK; split <;> (first | omega | (split <;> (first | omega | (split <;> (first | omega | (split <;> omega))))))
    omega
  have HN := Lib.hid hn
  clear hb htab hn
  go_enter Tryd.func32, Tryd.ntmps32
  go_wp2_with fail
  refine HBG.out.mono ?_
  rintro e w1 ⟨g, rfl, hg, hsp, hb1⟩
  have hg1 : 1 ≤ g := Nat.le_trans HTAB.out.size hg
  have HT := Lib.hid (take_any g k 0 false (sizeK k) (zeros 25) a m c l w1 hsp (HB.out.below hb1) (fun b hb hm e => by have := HBB.out b hb hm; omega) (HTAB.out.below hb1))
  clear hsp HBG
  go_wp2_with fail
  refine HT.out.mono ?_
  rintro e w2 ⟨rfl, hsp, hgr⟩
  have hb2 : Below w.heap.size w w2 := hb1.trans ⟨hgr.os, hgr.tape, hgr.output, hgr.size, fun j hj => hgr.block j (Nat.lt_of_lt_of_le hj hb1.size) (fun e => by injection e with e; omega)⟩
  have HGV := Lib.hid (give_new g k _ n (sizeK k) _ w2 hsp (by omega) (by right; rw [HN.out]; omega) (HTAB.out.below hb2) _ rfl)
  rw [HN.out] at HSZ
  clear hsp HT
  go_wp2_with fail
  refine (HSZ.out _).mono ?_
  rintro e w' ⟨rfl, rfl⟩
  go_wp2_with fail
  refine HGV.out.mono ?_
  rintro e w3 ⟨G, rfl, hG, hblk, hsp3, hg3⟩
  have hb3 : Below w.heap.size w w3 := hb2.trans ⟨hg3.os, hg3.tape, hg3.output, hg3.size, fun j hj => hg3.block j (Nat.lt_of_lt_of_le hj hb2.size) (fun e => by injection e with e; omega)⟩
  have HBLK := Lib.hid hblk
  clear hblk hsp3 hg3 hgr HGV HSZ
  go_wp2_with fail
  go_ret
  exact ⟨G, rfl, Nat.le_trans hb2.size hG, HBLK.out, hb3⟩
/-- what a call answers that gives an array of bytes -/
def BytesIs (l : List Nat) (w : World) (e : Ending) (w' : World) : Prop := e = .returned (.agg (natsV .u8 l).toArray) ∧ Below w.heap.size w w'
theorem blk_range {w : World} {G : Nat} {t : TypeId} {l : List Nat} (h : Blk w G t (natsV .u8 l)) : w.rangeAt G 0 (natsV .u8 l) := by
  intro j v hv
  rw [Nat.zero_add, h.cell, hv]
theorem info29s : (Tryd.prog.info? 29).map (·.size) = some 32 := by kernel_rfl
theorem info31s : (Tryd.prog.info? 31).map (·.size) = some 64 := by kernel_rfl
theorem arr29 (G cap : Nat) (w : World) : (Instr.arrayAt 29 (.slice (some ⟨G, 0, none⟩) 32 cap)).run Tryd.prog w = .ok (.pointer (some ⟨G, 0, none⟩)) w := by
  simp [Instr.arrayAt, run_underlying Tryd.underlying29]
theorem arr31 (G cap : Nat) (w : World) : (Instr.arrayAt 31 (.slice (some ⟨G, 0, none⟩) 64 cap)).run Tryd.prog w = .ok (.pointer (some ⟨G, 0, none⟩)) w := by
  simp [Instr.arrayAt, run_underlying Tryd.underlying31]

set_option maxRecDepth 100000 in
set_option maxHeartbeats 800000 in
theorem Sum256_any (a : Option Addr) (m c : Nat) (l : List Nat) (w : World) (hb : BIn w a m c l) (htab : Tabs w) :
    Calls Tryd.prog 12 #[.slice a m c] w (BytesIs (allK 1 l 32) w) := by
  have BEL := Lib.hid ((Below.refl w.heap.size w).alloc (Nat.le_refl _) (.cells (natsV .u8 (zeros 32)).toArray 29))
  have hs := sumOf_any 1 32 (.inl rfl) rfl a m c l _ (hb.below BEL.out) (htab.below BEL.out)
  have HS := Lib.hid (show Calls Tryd.prog 32 #[.int .i64 1, .slice a m c] (w.alloc (.cells (natsV .u8 (zeros 32)).toArray 29)) (RowIs 32 (allK 1 l 32) (w.alloc (.cells (natsV .u8 (zeros 32)).toArray 29))) from hs)
  have BR := Lib.hid (Blk.new w 29 (natsV .u8 (zeros 32)))
  have HL := Lib.hid (allK_length 1 l 32)
  clear hb htab hs
  generalize allK 1 l 32 = D at *
  go_enter Tryd.func12, Tryd.ntmps12
  go_wp2_with fail
  refine HS.out.mono ?_
  rintro e w1 ⟨G, rfl, hG, hblk, hb1⟩
  have HR := Lib.hid (blk_range hblk)
  have BR1 := Lib.hid (BR.out.below' hb1)
  have hb2 := BEL.out.trans (hb1.mono BEL.out.size)
  have HLs := Lib.hid (show (Tryd.prog.info? 29).map (·.size) = some (natsV .u8 D).length from by rw [info29s, natsV_length, HL.out])
  have HLt := Lib.hid (show (Tryd.prog.info? 29).map (·.size) = some (natsV .u8 D).toArray.size from by rw [info29s, size_nats, HL.out])
  have HLu := Lib.hid (show (natsV .u8 (zeros 32)).toArray.size = (natsV .u8 D).toArray.size from by rw [size_nats, size_nats, HL.out]; rfl)
  have harr := arr29 G 32
  clear HS BR hblk hG hb1
  go_wp2_with (first | (refine wpList_load_mid rfl 29 (.tmp 5) rfl G 0 rfl (natsV .u8 D) _ HR.out Tryd.underlying29 rfl HLs.out ?_) | (refine wpList_store_row rfl 29 (.tmp 2) (.tmp 6) rfl w.heap.size (natsV .u8 D).toArray rfl rfl 29 (natsV .u8 (zeros 32)).toArray BR1.out HLt.out HLu.out (all_nats _ _) ?_))
  have j2 := BR1.out.setRow (natsV .u8 D)
  have hb3 := below_setRow' hb2 (Nat.le_refl _) (natsV .u8 D).toArray
  refine bodyPost_ret (v := .agg (natsV .u8 D).toArray) ?_ rfl ⟨rfl, hb3⟩
  exact results_cell_row Tryd.results12 _ _ w.heap.size 29 _ (0, 0) _ rfl j2 Tryd.underlying29 rfl HLt.out

set_option maxRecDepth 100000 in
set_option maxHeartbeats 800000 in
theorem Sum512_any (a : Option Addr) (m c : Nat) (l : List Nat) (w : World) (hb : BIn w a m c l) (htab : Tabs w) :
    Calls Tryd.prog 13 #[.slice a m c] w (BytesIs (allK 3 l 64) w) := by
  have BEL := Lib.hid ((Below.refl w.heap.size w).alloc (Nat.le_refl _) (.cells (natsV .u8 (zeros 64)).toArray 31))
  have hs := sumOf_any 3 64 (.inr (.inr (.inl rfl))) rfl a m c l _ (hb.below BEL.out) (htab.below BEL.out)
  have HS := Lib.hid (show Calls Tryd.prog 32 #[.int .i64 3, .slice a m c] (w.alloc (.cells (natsV .u8 (zeros 64)).toArray 31)) (RowIs 64 (allK 3 l 64) (w.alloc (.cells (natsV .u8 (zeros 64)).toArray 31))) from hs)
  have BR := Lib.hid (Blk.new w 31 (natsV .u8 (zeros 64)))
  have HL := Lib.hid (allK_length 3 l 64)
  clear hb htab hs
  generalize allK 3 l 64 = D at *
  go_enter Tryd.func13, Tryd.ntmps13
  go_wp2_with fail
  refine HS.out.mono ?_
  rintro e w1 ⟨G, rfl, hG, hblk, hb1⟩
  have HR := Lib.hid (blk_range hblk)
  have BR1 := Lib.hid (BR.out.below' hb1)
  have hb2 := BEL.out.trans (hb1.mono BEL.out.size)
  have HLs := Lib.hid (show (Tryd.prog.info? 31).map (·.size) = some (natsV .u8 D).length from by rw [info31s, natsV_length, HL.out])
  have HLt := Lib.hid (show (Tryd.prog.info? 31).map (·.size) = some (natsV .u8 D).toArray.size from by rw [info31s, size_nats, HL.out])
  have HLu := Lib.hid (show (natsV .u8 (zeros 64)).toArray.size = (natsV .u8 D).toArray.size from by rw [size_nats, size_nats, HL.out]; rfl)
  have harr := arr31 G 64
  clear HS BR hblk hG hb1
  go_wp2_with (first | (refine wpList_load_mid rfl 31 (.tmp 5) rfl G 0 rfl (natsV .u8 D) _ HR.out Tryd.underlying31 rfl HLs.out ?_) | (refine wpList_store_row rfl 31 (.tmp 2) (.tmp 6) rfl w.heap.size (natsV .u8 D).toArray rfl rfl 31 (natsV .u8 (zeros 64)).toArray BR1.out HLt.out HLu.out (all_nats _ _) ?_))
  have j2 := BR1.out.setRow (natsV .u8 D)
  have hb3 := below_setRow' hb2 (Nat.le_refl _) (natsV .u8 D).toArray
  refine bodyPost_ret (v := .agg (natsV .u8 D).toArray) ?_ rfl ⟨rfl, hb3⟩
  exact results_cell_row Tryd.results13 _ _ w.heap.size 31 _ (0, 0) _ rfl j2 Tryd.underlying31 rfl HLt.out

theorem nil0 : (allK 1 [] 32).getD 0 0 = 167 ∧ (allK 1 [] 32).getD 1 0 = 255 ∧ (allK 1 [] 32).getD 2 0 = 198 := by decide +kernel
set_option maxRecDepth 100000 in
set_option maxHeartbeats 800000 in
theorem awake_any (w : World) (htab : Tabs w) : Calls Tryd.prog 8 #[] w fun e w' => e = .returned (.bool true) ∧ Below w.heap.size w w' := by
  have HS := Lib.hid (Sum256_any none 0 0 [] w (bin_empty w none 0 (Nat.zero_le _) (fun _ => rfl)) htab)
  have HL := Lib.hid (allK_length 1 [] 32)
  have HN := Lib.hid nil0
  clear htab
  generalize allK 1 [] 32 = D at *
  go_enter Tryd.func8, Tryd.ntmps8
  go_wp2_with fail
  refine HS.out.mono ?_
  rintro e w2 ⟨rfl, hb2⟩
  have HLt := Lib.hid (show (Tryd.prog.info? 29).map (·.size) = some (natsV .u8 D).toArray.size from by rw [info29s, size_nats, HL.out])
  have HLu := Lib.hid (show (natsV .u8 (zeros 32)).toArray.size = (natsV .u8 D).toArray.size from by rw [size_nats, size_nats, HL.out]; rfl)
  go_upto_region 2 with (refine wpList_store_row rfl 29 (.tmp 1) (.tmp 2) rfl w2.heap.size (natsV .u8 D).toArray rfl rfl 29 (natsV .u8 (zeros 32)).toArray (Blk.new w2 29 (natsV .u8 (zeros 32))) HLt.out HLu.out (all_nats _ _) ?_)
  rw [World.setRow_alloc_new]
  obtain ⟨W4, hW4⟩ : ∃ W4 : World, w2.alloc (.cells (natsV .u8 D).toArray 29) = W4 := ⟨_, rfl⟩
  rw [hW4]
  have hblk : Blk W4 w2.heap.size 29 (natsV .u8 D) := by rw [← hW4]; exact Blk.new w2 29 _
  have hb4 : Below w.heap.size w W4 := by rw [← hW4]; exact hb2.alloc hb2.size _
  clear hW4
  have c0 := hblk.nat 0 (by rw [HL.out]; decide)
  have c1 := hblk.nat 1 (by rw [HL.out]; decide)
  have c2 := hblk.nat 2 (by rw [HL.out]; decide)
  rw [HN.out.1] at c0
  rw [HN.out.2.1] at c1
  rw [HN.out.2.2] at c2
  go_wp2_with fail
  go_ret
  exact ⟨rfl, hb4⟩
end Go.Proofs.YtidnlaibfkjgpaaDoor
