/- The digest of all that was taken in: the project's function answers the plain one, and nothing turns. Condition: the tables. -/
import Derived.Test.YtnikhnpigopihaaDoorTake
import Derived.Test.YtnikhnpigopihaaDoorPad
import Derived.Deep.WholeRow
namespace Go.Proofs.YtnikhnpigopihaaDoor
open Go.RowKit
set_option linter.unusedVariables false
/-- the digest of a hash -/
def digN (k n : Nat) (s t : List Nat) : List Nat := (beW (wB k) (goes (wW k) s (t ++ padN k n)).1).take (dgB k)
theorem info72s : (Tryd.prog.info? 72).map (·.size) = some 138 := by kernel_rfl
theorem hash_size {k n : Nat} {s r : List Nat} (hs : s.length = 8) (hr : r.length = 128) : (hashV k n s r).toArray.size = 138 := by simp [hashV, natsV_length, hs, hr]
theorem hash_one (k n : Nat) (s r : List Nat) : (hashV k n s r).toArray.all (·.oneCell') = true :=
  Array.all_eq_true_iff_forall_mem.2 (fun v hv => by
    have hv : v ∈ hashV k n s r := by simpa using hv
    rcases List.mem_cons.1 hv with rfl | hv
    · rfl
    · rcases List.mem_cons.1 hv with rfl | hv
      · rfl
      · rcases List.mem_append.1 hv with hv | hv
        · exact natsV_one _ _ v hv
        · exact natsV_one _ _ v hv)
theorem own_form {w : World} {base n : Nat} {v : Value} {xs : List Value} (h : w.ownsRow base 5 1 v n xs) (hn : 0 < n) : ∃ G cap, v = .slice (some ⟨G, 0, none⟩) n cap ∧ n ≤ cap ∧ cap ≤ maxLen ∧ base ≤ G := by
  rcases h.2 with ⟨_, h0⟩ | ⟨g, cap, cur, hv, hb, _, h1, h2, _⟩
  · omega
  · exact ⟨g, cap, hv, h1, h2, hb⟩
theorem own_prefix {w : World} {base n m G cap : Nat} {l : List Nat} (h : w.ownsRow base 5 1 (.slice (some ⟨G, 0, none⟩) n cap) n (bytesV l)) (hm : m ≤ n) : w.ownsRow base 5 1 (.slice (some ⟨G, 0, none⟩) m cap) m (bytesV (l.take m)) := by
  have hl : l.length = n := by have := h.1; simpa [bytesV] using this
  refine ⟨by simp [bytesV, hl]; omega, ?_⟩
  rcases h.2 with ⟨h0, _⟩ | ⟨g, c, cur, hv, hb, hh, h1, h2, h3, h4⟩
  · cases h0
  · injection hv with e1 e2 e3
    injection e1 with e1
    injection e1 with e1
    subst e1 e3
    refine .inr ⟨G, cap, cur, rfl, hb, hh, by omega, h2, h3, ?_⟩
    have : bytesV (l.take m) = (bytesV l).take m := by simp [bytesV, List.map_take]
    rw [this, ← h4, List.take_take]; congr 1; omega
theorem padN_length (k n : Nat) : (padN k n).length = 1 + padZ k n + 8 := by simp [padN, zeros, beB_length]; omega
theorem padN_lt (k n : Nat) : ∀ x ∈ padN k n, x < 256 := by
  intro x hx
  rcases List.mem_append.1 hx with h | h
  · rcases List.mem_cons.1 h with rfl | h
    · decide
    · rw [List.eq_of_mem_replicate h]; decide
  · exact beB_lt _ _ x h
theorem padZ_le (k n : Nat) : padZ k n ≤ 200 := by
  have h : (2 * (2 * wW k) - n % (2 * wW k) - 1 - 2 * wB k) % (2 * wW k) < 2 * wW k := Nat.mod_lt _ (by unfold wW; split <;> omega)
  have h2 : 2 * wW k ≤ 128 ∧ wB k ≤ 8 := by unfold wW wB; split <;> omega
  unfold padZ; omega
set_option maxHeartbeats 400000 in
theorem sum_nil (w : World) : Calls Tryd.prog 29 #[.pointer none] w fun e w' => e = .returned (.slice none 0 0) ∧ w = w' := by
  go_enter Tryd.func29, Tryd.ntmps29
  go_wp2_with fail
  go_ret
  exact ⟨rfl, rfl⟩
theorem sumEnd {w W3 w4 : World} {G cap n64 dg : Nat} {L : List Nat} (ho : w4.ownsRow W3.heap.size 5 1 (.slice (some ⟨G, 0, none⟩) n64 cap) n64 (bytesV L)) (hb : Below W3.heap.size W3 w4) (hw : Below w.heap.size w W3) (hdg : dg ≤ n64) (hl : L.length = n64) :
    w4.ownsRow w.heap.size 5 1 (.slice (some ⟨G, 0, none⟩) dg cap) (L.take dg).length (bytesV (L.take dg)) ∧ Below w.heap.size w w4 := by
  have h1 := own_prefix ho hdg
  have e : (L.take dg).length = dg := by simp; omega
  rw [e]
  refine ⟨⟨h1.1, ?_⟩, hw.trans (hb.mono hw.size)⟩
  rcases h1.2 with h2 | ⟨g, c, cur, h3, h4, h5⟩
  · exact .inl h2
  · exact .inr ⟨g, c, cur, h3, Nat.le_trans hw.size h4, h5⟩
set_option maxRecDepth 100000 in
set_option maxHeartbeats 1600000 in
theorem sum_any (g k n : Nat) (s t : List Nat) (w : World) (h : HashAt w g k n s t) (htab : Tabs w) :
    Calls Tryd.prog 29 #[.pointer (some ⟨g, 0, none⟩)] w (AppIs w.heap.size (digN k n s t) w) := by
  have h' := h
  obtain ⟨hk, hn, hs, hx, ht, hg, r, hr, hr2, hrt, blk⟩ := h'
  have BLK := Lib.hid blk
  have HS := Lib.hid hs
  have HR := Lib.hid hr
  have hgl := blk.lt
  -- the copy
  obtain ⟨W1, hW1⟩ : ∃ W1 : World, W1 = w.alloc (.cells (hashV k n s r).toArray 72) := ⟨_, rfl⟩
  have hbel1 : Below w.heap.size w W1 := by rw [hW1]; exact (Below.refl _ _).alloc (Nat.le_refl _) _
  have hp1 : Blk W1 w.heap.size 72 (hashV k n s r) := by rw [hW1]; exact Blk.new w 72 _
  have hsz1 : W1.heap.size = w.heap.size + 1 := by rw [hW1]; simp
  have HP := Lib.hid (padding_any g k n s r hk hn W1 (blk.below' hbel1))
  go_enter Tryd.func29, Tryd.ntmps29
  go_wp2_with (first | (refine wpList_load_row rfl 72 (.tmp 7) rfl g rfl 72 (hashV k n s r).toArray (0, 0) _ BLK.out Tryd.underlying72 rfl (by rw [info72s, hash_size HS.out HR.out]) ?_) | (refine wpList_store_row rfl 72 (.tmp 3) (.tmp 8) rfl w.heap.size (hashV k n s r).toArray rfl rfl 72 (hashV 0 0 (zeros 8) (zeros 128)).toArray (Blk.new w 72 (hashV 0 0 (zeros 8) (zeros 128))) (by rw [info72s, hash_size HS.out HR.out]) (by rw [hash_size HS.out HR.out]; rfl) (hash_one _ _ _ _) ?_))
  rw [World.setRow_alloc_new, ← hW1]
  have HBEL1 := Lib.hid hbel1
  have HHA := Lib.hid (show HashAt W1 w.heap.size k n s t from ⟨hk, hn, hs, hx, ht, by omega, r, hr, hr2, hrt, hp1⟩)
  have HTAB1 := Lib.hid (htab.below hbel1)
  have BLK1 := Lib.hid (blk.below' hbel1)
  clear hW1 hp1 h hs hr hx hr2 hrt ht blk hbel1 htab
  refine HP.out.mono ?_
  rintro e W2 ⟨v2, rfl, ho2, hb2⟩
  obtain ⟨a2, c2, rfl, hbin2, hl2⟩ := own_in ho2 (padN_lt k n) (by rw [padN_length]; have := padZ_le k n; omega)
  have hab2 : ∀ b, a2 = some b → b.block ≠ w.heap.size := by
    rintro b rfl
    have := (ho2.lt b.block rfl).1
    omega
  have HT2 := Lib.hid (take_any w.heap.size k n s t (padN k n) a2 _ c2 W2 (by
    obtain ⟨hk, hn, hs, hx, ht, hg, r', hr, hr2, hrt, blk⟩ := HHA.out
    exact ⟨hk, hn, hs, hx, ht, hg, r', hr, hr2, hrt, blk.below' hb2⟩) hbin2 (fun b hb _ => hab2 b hb) (HTAB1.out.below hb2))
  have BLK2 := Lib.hid (BLK1.out.below' hb2)
  have hsz2 := hb2.size
  clear HP ho2 hbin2 hab2
  go_wp2_with fail
  refine HT2.out.mono ?_
  rintro e W3 ⟨rfl, hha3, hgr3⟩
  have BLK3 := Lib.hid (BLK2.out.grown hgr3 (by intro e; injection e with e; omega))
  have HBEL3 := Lib.hid (show Below w.heap.size w W3 from
    HBEL1.out.trans ((hb2.mono (B' := w.heap.size) (by omega)).trans ⟨hgr3.os, hgr3.tape, hgr3.output, hgr3.size, fun j hj => hgr3.block j (by omega) (fun e => by injection e with e; omega)⟩))
  clear HT2
  obtain ⟨_, _, hs3, hx3, _, _, r3, hr3, _, _, blk3⟩ := hha3
  have HD := Lib.hid (show digN k n s t = (beW (wB k) (goes (wW k) s (t ++ padN k n)).1).take (dgB k) from rfl)
  generalize (goes (wW k) s (t ++ padN k n)).1 = s3 at *
  obtain ⟨b0, b1, b2, b3, b4, b5, b6, b7, hs8⟩ := list8 hs3
  subst hs8
  obtain ⟨p0, p1, p2, p3, p4, p5, p6, p7, _, _, _, _, _, _, _, _⟩ := wordFacts blk3
  have hx64 : ∀ x ∈ [b0, b1, b2, b3, b4, b5, b6, b7], x < 2 ^ 64 := fun x hx => Nat.lt_of_lt_of_le (hx3 x hx) (Nat.pow_le_pow_right (by decide) (by unfold wW; split <;> omega))
  have hAW := appendWords_any W3.heap.size (.slice none 0 0) [] [b0, b1, b2, b3, b4, b5, b6, b7] (wB k) W3.drew (World.ownsRow_nil _ _ _ _) (Nat.le_refl _) (by simp) (by unfold wB; split <;> omega) rfl hx64
  have hwl : (beW (wB k) [b0, b1, b2, b3, b4, b5, b6, b7]).length = 8 * wB k := beW_length _ _
  have hdg : 0 < dgB k ∧ dgB k ≤ 8 * wB k := by unfold dgB wB; split <;> (first | omega | (split <;> omega))
  have HWS := Lib.hid (fun w => wordSize_any k hk w)
  have HDS := Lib.hid (fun w => digestSize_any k hk w)
  have HAW := Lib.hid (show Calls Tryd.prog 44 #[.slice none 0 0, .agg #[.int .u64 (b0 : Nat), .int .u64 (b1 : Nat), .int .u64 (b2 : Nat), .int .u64 (b3 : Nat), .int .u64 (b4 : Nat), .int .u64 (b5 : Nat), .int .u64 (b6 : Nat), .int .u64 (b7 : Nat)], .int .i64 (wB k : Nat)] W3.drew
    (fun e w' => ∃ G cap, e = .returned (.slice (some ⟨G, 0, none⟩) (8 * wB k) cap) ∧ 8 * wB k ≤ cap ∧ cap ≤ maxLen ∧ w'.ownsRow W3.heap.size 5 1 (.slice (some ⟨G, 0, none⟩) (8 * wB k) cap) (8 * wB k) (bytesV (beW (wB k) [b0, b1, b2, b3, b4, b5, b6, b7])) ∧ Below W3.heap.size W3 w') from hAW.mono fun e w' ⟨v, he, ho, hb⟩ => by
      rw [List.nil_append, hwl] at ho
      obtain ⟨G, cap, rfl, h1, h2, _⟩ := own_form ho (by omega)
      exact ⟨G, cap, he, h1, h2, ho, ⟨hb.os, hb.tape, hb.output, hb.size, hb.block⟩⟩)
  have hkc := hash_kind BLK3.out
  have HKC := Lib.hid (fun (w4 : World) (hb : Below W3.heap.size W3 w4) => hash_kind (BLK3.out.below' hb))
  have HWL := Lib.hid hwl
  have hsz3 := hgr3.size
  clear hAW hwl hx64 hx3 hs3 blk3 hgr3 hb2 BLK1 BLK2 HHA
  have HEND := Lib.hid (fun (G cap : Nat) (w4 : World) (ho : w4.ownsRow W3.heap.size 5 1 (.slice (some ⟨G, 0, none⟩) (8 * wB k) cap) (8 * wB k) (bytesV (beW (wB k) [b0, b1, b2, b3, b4, b5, b6, b7]))) (hb : Below W3.heap.size W3 w4) =>
    sumEnd ho hb HBEL3.out hdg.2 HWL.out)
  clear HWL
  generalize beW (wB k) [b0, b1, b2, b3, b4, b5, b6, b7] = L at *
  have hwb : wB k ≤ 8 := by unfold wB; split <;> omega
  generalize 8 * wB k = n64 at *
  generalize wB k = wb at *
  generalize dgB k = dg at *
  go_wp2_with fail
  go_region_with (first | (go_at_call 41; refine (HWS.out _).mono ?_; rintro e w' ⟨rfl, rfl⟩) | (go_at_call 47; refine (HDS.out _).mono ?_; rintro e w' ⟨rfl, rfl⟩) | (go_at_call 44; refine HAW.out.mono ?_; rintro e w4 ⟨G, cap, rfl, hc1, hc2, ho4, hb4⟩; have hkc4 := HKC.out w4 hb4; have hdgI : (dg : Int) ≤ (cap : Int) := by omega))
  all_goals (go_wp2_with fail; go_ret; exact ⟨_, rfl, by rw [HD.out]; exact (HEND.out G cap w4 ho4 hb4).1, (HEND.out G cap w4 ho4 hb4).2⟩)
end Go.Proofs.YtnikhnpigopihaaDoor
