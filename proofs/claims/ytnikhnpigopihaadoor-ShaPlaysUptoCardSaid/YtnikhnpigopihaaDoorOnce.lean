/- The digest of a message at once: the project's functions answer the plain one. Condition: the tables. -/
import Derived.Test.YtnikhnpigopihaaDoorSum
namespace Go.Proofs.YtnikhnpigopihaaDoor
open Go.RowKit
set_option linter.unusedVariables false
/-- the digest of a message -/
def msgD (k : Nat) (l : List Nat) : List Nat := digN k (l.length % 2 ^ 64) (goes (wW k) (firstN k) l).1 (goes (wW k) (firstN k) l).2
theorem digN_length (k n : Nat) (s t : List Nat) (hs : s.length = 8) (hx : ∀ x ∈ s, x < 2 ^ wW k) : (digN k n s t).length = dgB k := by
  unfold digN
  rw [List.length_take, beW_length, (goes_state (W := wW k) (by unfold wW; split <;> omega) _ s (t ++ padN k n) rfl hs hx).1]
  unfold dgB wB; split <;> (first | rfl | (split <;> rfl))
theorem digN_lt (k n : Nat) (s t : List Nat) : ∀ x ∈ digN k n s t, x < 256 := fun x hx => beW_lt _ _ x (List.mem_of_mem_take hx)
theorem goes0_state (k : Nat) (l : List Nat) : (goes (wW k) (firstN k) l).1.length = 8 ∧ ∀ x ∈ (goes (wW k) (firstN k) l).1, x < 2 ^ wW k :=
  goes_state (by unfold wW; split <;> omega) _ _ _ rfl (firstN_length k) (firstN_lt k)
theorem msgD_length (k : Nat) (l : List Nat) : (msgD k l).length = dgB k := digN_length _ _ _ _ (goes0_state k l).1 (goes0_state k l).2
theorem msgD_lt (k : Nat) (l : List Nat) : ∀ x ∈ msgD k l, x < 256 := digN_lt _ _ _ _
/-- a new hash -/
theorem hash_new {w : World} {g k : Nat} (hk : IsKind k) (hg : 2 ≤ g) (h : Blk w g 72 (hashV k 0 (firstN k) (zeros 128))) : HashAt w g k 0 (firstN k) [] :=
  ⟨hk, by decide, firstN_length k, firstN_lt k, by simp, hg, zeros 128, by simp [zeros], fun x hx => by rw [List.eq_of_mem_replicate hx]; decide, rfl, h⟩
theorem bin_block {w : World} {a : Option Addr} {n c : Nat} {l : List Nat} (h : BIn w a n c l) : ∀ b, a = some b → 0 < n → b.block < w.heap.size := by
  rintro b rfl hn
  obtain ⟨b', off, he, hc⟩ := h.1.2.2.2.resolve_left (by omega)
  injection he with he
  subst he
  exact World.block_lt_of_cell? w _ (hc 0 hn)
set_option maxHeartbeats 800000 in
theorem sumOf_any (k : Nat) (hk : IsKind k) (a : Option Addr) (m c : Nat) (l : List Nat) (w : World) (hb : BIn w a m c l) (htab : Tabs w) :
    Calls Tryd.prog 34 #[.int .u8 (k : Nat), .slice a m c] w (AppIs w.heap.size (msgD k l) w) := by
  have HBG := Lib.hid (begin_any k hk w htab)
  have HB := Lib.hid hb
  have HTAB := Lib.hid htab
  have HBB := Lib.hid (bin_block hb)
  have HLEN := Lib.hid hb.1.1
  clear hb htab
  go_enter Tryd.func34, Tryd.ntmps34
  go_wp2_with fail
  refine HBG.out.mono ?_
  rintro e w1 ⟨g, rfl, hg, hblk, hb1⟩
  have hg2 : 2 ≤ g := Nat.le_trans HTAB.out.size hg
  have HT := Lib.hid (take_any g k 0 (firstN k) [] l a m c w1 (hash_new hk hg2 hblk) (HB.out.below hb1) (fun b hb hm e => by have := HBB.out b hb hm; omega) (HTAB.out.below hb1))
  rw [Nat.zero_add, List.nil_append] at HT
  clear hblk HBG
  go_wp2_with fail
  refine HT.out.mono ?_
  rintro e w2 ⟨rfl, hha, hgr⟩
  have hb2 : Below w.heap.size w w2 := hb1.trans ⟨hgr.os, hgr.tape, hgr.output, hgr.size, fun j hj => hgr.block j (Nat.lt_of_lt_of_le hj hb1.size) (fun e => by injection e with e; omega)⟩
  have HS := Lib.hid (sum_any g k _ _ _ w2 hha (HTAB.out.below hb2))
  clear hha hgr HT
  go_wp2_with fail
  refine HS.out.mono ?_
  rintro e w3 ⟨v, rfl, ho, hb3⟩
  have HO := Lib.hid ho
  clear ho HS
  go_wp2_with fail
  go_ret
  refine ⟨v, rfl, ?_, hb2.trans (hb3.mono hb2.size)⟩
  have h4 := HO.out
  rw [← HLEN.out] at h4
  exact ⟨h4.1, h4.2.imp id (fun ⟨G, cap, cur, e1, e2, e3⟩ => ⟨G, cap, cur, e1, Nat.le_trans hb2.size e2, e3⟩)⟩
/-- what a call answers that gives an array of bytes -/
def BytesIs (l : List Nat) (w : World) (e : Ending) (w' : World) : Prop := e = .returned (.agg (natsV .u8 l).toArray) ∧ Below w.heap.size w w'
theorem own_range {w : World} {base n G cap : Nat} {l : List Nat} (h : w.ownsRow base 5 1 (.slice (some ⟨G, 0, none⟩) n cap) n (bytesV l)) : w.rangeAt G 0 (natsV .u8 l) := by
  intro j v hv
  have hj : j < l.length := by have := (List.getElem?_eq_some_iff.1 hv).1; simpa [natsV] using this
  obtain ⟨h1, h2⟩ := own_cells h
  rw [h2 j (by omega), ← hv, natsV_get _ _ _ hj]
theorem info25s : (Tryd.prog.info? 25).map (·.size) = some 32 := by kernel_rfl
theorem info27s : (Tryd.prog.info? 27).map (·.size) = some 48 := by kernel_rfl
theorem info29s : (Tryd.prog.info? 29).map (·.size) = some 64 := by kernel_rfl
theorem arr25 (G cap : Nat) (w : World) : (Instr.arrayAt 25 (.slice (some ⟨G, 0, none⟩) 32 cap)).run Tryd.prog w = .ok (.pointer (some ⟨G, 0, none⟩)) w := by
  simp [Instr.arrayAt, run_underlying Tryd.underlying25]
theorem arr27 (G cap : Nat) (w : World) : (Instr.arrayAt 27 (.slice (some ⟨G, 0, none⟩) 48 cap)).run Tryd.prog w = .ok (.pointer (some ⟨G, 0, none⟩)) w := by
  simp [Instr.arrayAt, run_underlying Tryd.underlying27]
theorem arr29 (G cap : Nat) (w : World) : (Instr.arrayAt 29 (.slice (some ⟨G, 0, none⟩) 64 cap)).run Tryd.prog w = .ok (.pointer (some ⟨G, 0, none⟩)) w := by
  simp [Instr.arrayAt, run_underlying Tryd.underlying29]
set_option maxRecDepth 100000 in
set_option maxHeartbeats 800000 in
theorem Sum256_any (a : Option Addr) (m c : Nat) (l : List Nat) (w : World) (hb : BIn w a m c l) (htab : Tabs w) :
    Calls Tryd.prog 11 #[.slice a m c] w (BytesIs (msgD 1 l) w) := by
  have BEL := Lib.hid ((Below.refl w.heap.size w).alloc (Nat.le_refl _) (.cells (natsV .u8 (zeros 32)).toArray 25))
  have hs := sumOf_any 1 (.inl rfl) a m c l _ (hb.below BEL.out) (htab.below BEL.out)
  have HS := Lib.hid (show Calls Tryd.prog 34 #[.int .u8 1, .slice a m c] (w.alloc (.cells (natsV .u8 (zeros 32)).toArray 25)) (AppIs (w.alloc (.cells (natsV .u8 (zeros 32)).toArray 25)).heap.size (msgD 1 l) (w.alloc (.cells (natsV .u8 (zeros 32)).toArray 25))) from hs)
  have BR := Lib.hid (Blk.new w 25 (natsV .u8 (zeros 32)))
  have HL := Lib.hid (show (msgD 1 l).length = 32 from msgD_length 1 l)
  clear hb htab hs
  generalize msgD 1 l = D at *
  go_enter Tryd.func11, Tryd.ntmps11
  go_wp2_with fail
  refine HS.out.mono ?_
  rintro e w1 ⟨v, rfl, ho, hb1⟩
  rw [HL.out] at ho
  obtain ⟨G, cap, rfl, hc1, hc2, hG⟩ := own_form ho (by decide)
  have HR := Lib.hid (own_range ho)
  have BR1 := Lib.hid (BR.out.below' hb1)
  have hb2 := BEL.out.trans (hb1.mono BEL.out.size)
  have HLs := Lib.hid (show (Tryd.prog.info? 25).map (·.size) = some (natsV .u8 D).length from by rw [info25s, natsV_length, HL.out])
  have HLt := Lib.hid (show (Tryd.prog.info? 25).map (·.size) = some (natsV .u8 D).toArray.size from by rw [info25s, size_nats, HL.out])
  have HLu := Lib.hid (show (natsV .u8 (zeros 32)).toArray.size = (natsV .u8 D).toArray.size from by rw [size_nats, size_nats, HL.out]; rfl)
  have harr := arr25 G cap
  clear HS BR ho hc1 hc2  hG hb1
  go_wp2_with (first | (refine wpList_load_mid rfl 25 (.tmp 5) rfl G 0 rfl (natsV .u8 D) _ HR.out Tryd.underlying25 rfl HLs.out ?_) | (refine wpList_store_row rfl 25 (.tmp 2) (.tmp 6) rfl w.heap.size (natsV .u8 D).toArray rfl rfl 25 (natsV .u8 (zeros 32)).toArray BR1.out HLt.out HLu.out (all_nats _ _) ?_))
  have j2 := BR1.out.setRow (natsV .u8 D)
  have hb3 := below_setRow' hb2 (Nat.le_refl _) (natsV .u8 D).toArray
  refine bodyPost_ret (v := .agg (natsV .u8 D).toArray) ?_ rfl ⟨rfl, hb3⟩
  exact results_cell_row Tryd.results11 _ _ w.heap.size 25 _ (0, 0) _ rfl j2 Tryd.underlying25 rfl HLt.out
set_option maxRecDepth 100000 in
set_option maxHeartbeats 800000 in
theorem Sum384_any (a : Option Addr) (m c : Nat) (l : List Nat) (w : World) (hb : BIn w a m c l) (htab : Tabs w) :
    Calls Tryd.prog 12 #[.slice a m c] w (BytesIs (msgD 2 l) w) := by
  have BEL := Lib.hid ((Below.refl w.heap.size w).alloc (Nat.le_refl _) (.cells (natsV .u8 (zeros 48)).toArray 27))
  have hs := sumOf_any 2 (.inr (.inl rfl)) a m c l _ (hb.below BEL.out) (htab.below BEL.out)
  have HS := Lib.hid (show Calls Tryd.prog 34 #[.int .u8 2, .slice a m c] (w.alloc (.cells (natsV .u8 (zeros 48)).toArray 27)) (AppIs (w.alloc (.cells (natsV .u8 (zeros 48)).toArray 27)).heap.size (msgD 2 l) (w.alloc (.cells (natsV .u8 (zeros 48)).toArray 27))) from hs)
  have BR := Lib.hid (Blk.new w 27 (natsV .u8 (zeros 48)))
  have HL := Lib.hid (show (msgD 2 l).length = 48 from msgD_length 2 l)
  clear hb htab hs
  generalize msgD 2 l = D at *
  go_enter Tryd.func12, Tryd.ntmps12
  go_wp2_with fail
  refine HS.out.mono ?_
  rintro e w1 ⟨v, rfl, ho, hb1⟩
  rw [HL.out] at ho
  obtain ⟨G, cap, rfl, hc1, hc2, hG⟩ := own_form ho (by decide)
  have HR := Lib.hid (own_range ho)
  have BR1 := Lib.hid (BR.out.below' hb1)
  have hb2 := BEL.out.trans (hb1.mono BEL.out.size)
  have HLs := Lib.hid (show (Tryd.prog.info? 27).map (·.size) = some (natsV .u8 D).length from by rw [info27s, natsV_length, HL.out])
  have HLt := Lib.hid (show (Tryd.prog.info? 27).map (·.size) = some (natsV .u8 D).toArray.size from by rw [info27s, size_nats, HL.out])
  have HLu := Lib.hid (show (natsV .u8 (zeros 48)).toArray.size = (natsV .u8 D).toArray.size from by rw [size_nats, size_nats, HL.out]; rfl)
  have harr := arr27 G cap
  clear HS BR ho hc1 hc2  hG hb1
  go_wp2_with (first | (refine wpList_load_mid rfl 27 (.tmp 5) rfl G 0 rfl (natsV .u8 D) _ HR.out Tryd.underlying27 rfl HLs.out ?_) | (refine wpList_store_row rfl 27 (.tmp 2) (.tmp 6) rfl w.heap.size (natsV .u8 D).toArray rfl rfl 27 (natsV .u8 (zeros 48)).toArray BR1.out HLt.out HLu.out (all_nats _ _) ?_))
  have j2 := BR1.out.setRow (natsV .u8 D)
  have hb3 := below_setRow' hb2 (Nat.le_refl _) (natsV .u8 D).toArray
  refine bodyPost_ret (v := .agg (natsV .u8 D).toArray) ?_ rfl ⟨rfl, hb3⟩
  exact results_cell_row Tryd.results12 _ _ w.heap.size 27 _ (0, 0) _ rfl j2 Tryd.underlying27 rfl HLt.out
set_option maxRecDepth 100000 in
set_option maxHeartbeats 800000 in
theorem Sum512_any (a : Option Addr) (m c : Nat) (l : List Nat) (w : World) (hb : BIn w a m c l) (htab : Tabs w) :
    Calls Tryd.prog 13 #[.slice a m c] w (BytesIs (msgD 3 l) w) := by
  have BEL := Lib.hid ((Below.refl w.heap.size w).alloc (Nat.le_refl _) (.cells (natsV .u8 (zeros 64)).toArray 29))
  have hs := sumOf_any 3 (.inr (.inr rfl)) a m c l _ (hb.below BEL.out) (htab.below BEL.out)
  have HS := Lib.hid (show Calls Tryd.prog 34 #[.int .u8 3, .slice a m c] (w.alloc (.cells (natsV .u8 (zeros 64)).toArray 29)) (AppIs (w.alloc (.cells (natsV .u8 (zeros 64)).toArray 29)).heap.size (msgD 3 l) (w.alloc (.cells (natsV .u8 (zeros 64)).toArray 29))) from hs)
  have BR := Lib.hid (Blk.new w 29 (natsV .u8 (zeros 64)))
  have HL := Lib.hid (show (msgD 3 l).length = 64 from msgD_length 3 l)
  clear hb htab hs
  generalize msgD 3 l = D at *
  go_enter Tryd.func13, Tryd.ntmps13
  go_wp2_with fail
  refine HS.out.mono ?_
  rintro e w1 ⟨v, rfl, ho, hb1⟩
  rw [HL.out] at ho
  obtain ⟨G, cap, rfl, hc1, hc2, hG⟩ := own_form ho (by decide)
  have HR := Lib.hid (own_range ho)
  have BR1 := Lib.hid (BR.out.below' hb1)
  have hb2 := BEL.out.trans (hb1.mono BEL.out.size)
  have HLs := Lib.hid (show (Tryd.prog.info? 29).map (·.size) = some (natsV .u8 D).length from by rw [info29s, natsV_length, HL.out])
  have HLt := Lib.hid (show (Tryd.prog.info? 29).map (·.size) = some (natsV .u8 D).toArray.size from by rw [info29s, size_nats, HL.out])
  have HLu := Lib.hid (show (natsV .u8 (zeros 64)).toArray.size = (natsV .u8 D).toArray.size from by rw [size_nats, size_nats, HL.out]; rfl)
  have harr := arr29 G cap
  clear HS BR ho hc1 hc2  hG hb1
  go_wp2_with (first | (refine wpList_load_mid rfl 29 (.tmp 5) rfl G 0 rfl (natsV .u8 D) _ HR.out Tryd.underlying29 rfl HLs.out ?_) | (refine wpList_store_row rfl 29 (.tmp 2) (.tmp 6) rfl w.heap.size (natsV .u8 D).toArray rfl rfl 29 (natsV .u8 (zeros 64)).toArray BR1.out HLt.out HLu.out (all_nats _ _) ?_))
  have j2 := BR1.out.setRow (natsV .u8 D)
  have hb3 := below_setRow' hb2 (Nat.le_refl _) (natsV .u8 D).toArray
  refine bodyPost_ret (v := .agg (natsV .u8 D).toArray) ?_ rfl ⟨rfl, hb3⟩
  exact results_cell_row Tryd.results13 _ _ w.heap.size 29 _ (0, 0) _ rfl j2 Tryd.underlying29 rfl HLt.out
end Go.Proofs.YtnikhnpigopihaaDoor
