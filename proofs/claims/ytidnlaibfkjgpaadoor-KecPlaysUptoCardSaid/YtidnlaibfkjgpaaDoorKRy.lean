/- For KecPlays: the law's 'read' (func 39). Condition: the table of constants; sizes. -/
import Derived.Test.YtidnlaibfkjgpaaDoorKTw
import Derived.Test.YtidnlaibfkjgpaaDoorSame
namespace Go.Proofs.YtidnlaibfkjgpaaDoor
open Go.RowKit
set_option linter.unusedVariables false
set_option linter.unusedSimpArgs false
/-- what 'read' leaves -/
def RdIs (B ga gb k : Nat) (ph : Option Nat) (L : List Nat) (v : Value) (w : World) (e : Ending) (w' : World) : Prop := e = .returned (.bool true) ∧ ∃ ph', KT w' B ga gb k ph' L v ∧ Fr w w' (fun j => j = ga ∨ j = gb) ∧ (ph' = ph ∨ ∃ n, n ≤ 65536 ∧ ph' = some (NK ph + n))
theorem row_blk {w : World} {G n : Nat} {t : TypeId} {l : List Nat} (h : Blk w G t (natsV .u8 l)) (hl : l.length = n) (hn : n ≤ maxLen) (hlt : ∀ x ∈ l, x < 256) : ByteRow w (some ⟨G, 0, none⟩) n l :=
  ⟨hl, hn, hlt, .inr ⟨G, 0, rfl, fun i hi => by rw [Nat.zero_add]; exact h.nat i (by omega)⟩⟩
theorem own_blk5 {w : World} {B G n : Nat} {l : List Nat} (h : Blk w G 5 (natsV .u8 l)) (hl : l.length = n) (hn : n ≤ maxLen) (hB : B ≤ G) : w.ownsRow B 5 1 (.slice (some ⟨G, 0, none⟩) n n) n (bytesV l) := by
  refine ⟨by simp [bytesV, hl], .inr ⟨G, n, (natsV .u8 l).toArray, rfl, hB, h, Nat.le_refl _, hn, by simp [natsV_length, hl], ?_⟩⟩
  rw [List.take_of_length_le (by simp [natsV_length, hl])]
  rfl
theorem partK_len (k : Nat) (s : List Nat) (b n : Nat) : (partK k s b n).length = n := by simp [partK, tell]
theorem partK_lt (k : Nat) (s : List Nat) (b n : Nat) : ∀ x ∈ partK k s b n, x < 256 := by
  intro x hx
  unfold partK tell at hx
  obtain ⟨i, _, rfl⟩ := List.mem_map.1 hx
  exact Nat.mod_lt _ (by decide)
theorem bin_55 (w : World) : BIn (w.alloc (.cells #[.int .u8 55, .int .u8 55] 5)) (some ⟨w.heap.size, 0, none⟩) 2 2 [55, 55] := by
  refine ⟨⟨rfl, by unfold maxLen; omega, by decide, .inr ⟨w.heap.size, 0, rfl, fun i hi => ?_⟩⟩, Nat.le_refl _, by unfold maxLen; omega, by omega, fun h => by cases h⟩
  have hi' : i = 0 ∨ i = 1 := by omega
  rcases hi' with rfl | rfl <;> simp
set_option maxHeartbeats 1600000 in
theorem read39_bad (gt ga gb B k : Nat) (ph : Option Nat) (L : List Nat) (v : Value) (n : Int) (hn : n < 0 ∨ 65536 < n) (h64 : -9223372036854775808 ≤ n ∧ n ≤ 9223372036854775807) (w : World) (ht : TwK w gt ga gb) (h : KT w B ga gb k ph L v) :
    Calls Tryd.prog 39 #[.pointer (some ⟨gt, 0, none⟩), .int .i64 n] w (RdIs B ga gb k ph L v w) := by
  have hc0 := Blk.cell ht 0
  rw [show ([.pointer (some ⟨ga, 0, none⟩), .pointer (some ⟨gb, 0, none⟩)] : List Value)[0]? = some (.pointer (some ⟨ga, 0, none⟩)) from rfl] at hc0
  have HR := Lib.hid (fun w => read_bad ga n hn h64 w)
  have HK := Lib.hid (fun q => h.fr ((Fr.refl w (fun _ => False)).drewN q) (fun x => x) (fun x => x) (fun _ _ x => x))
  clear h ht
  unfold RdIs
  rcases hn with h0 | h0
  · go_enter Tryd.func39, Tryd.ntmps39
    go_wp2_with fail
    refine (HR.out _).mono ?_
    rintro e w' ⟨rfl, q, rfl⟩
    go_wp2_with fail
    go_ret
    exact ⟨rfl, ph, HK.out q, (Fr.refl w _).drewN q, .inl rfl⟩
  · have h1 : ¬ n < 0 := by omega
    go_enter Tryd.func39, Tryd.ntmps39
    go_wp2_with fail
    refine (HR.out _).mono ?_
    rintro e w' ⟨rfl, q, rfl⟩
    go_wp2_with fail
    go_ret
    exact ⟨rfl, ph, HK.out q, (Fr.refl w _).drewN q, .inl rfl⟩
set_option maxHeartbeats 1600000 in
theorem read39_spent (gt ga gb B k n : Nat) (ph : Option Nat) (L : List Nat) (v : Value) (hn : n ≤ 65536) (w : World) (ht : TwK w gt ga gb) (h : KT w B ga gb k ph L v) (h1 : leftN (sizeK k) (NK ph) ≠ -1) (h2 : leftN (sizeK k) (NK ph) < (n : Int)) (hph : NK ph ≤ 10000000) :
    Calls Tryd.prog 39 #[.pointer (some ⟨gt, 0, none⟩), .int .i64 (n : Nat)] w (RdIs B ga gb k ph L v w) := by
  have hc0 := Blk.cell ht 0
  have hc1 := Blk.cell ht 1
  rw [show ([.pointer (some ⟨ga, 0, none⟩), .pointer (some ⟨gb, 0, none⟩)] : List Value)[0]? = some (.pointer (some ⟨ga, 0, none⟩)) from rfl] at hc0
  rw [show ([.pointer (some ⟨ga, 0, none⟩), .pointer (some ⟨gb, 0, none⟩)] : List Value)[1]? = some (.pointer (some ⟨gb, 0, none⟩)) from rfl] at hc1
  obtain ⟨a, s, hs⟩ := h.sp
  obtain ⟨_, d0, _, _, d3⟩ := h.doc
  have HR := Lib.hid (read_spent ga k a n _ _ s w hs hn h1 h2)
  have HK := Lib.hid (fun q => h.fr ((Fr.refl w (fun _ => False)).drewN q) (fun x => x) (fun x => x) (fun _ _ x => x))
  have HL := Lib.hid (fun q => refLeft_any gb k (NK ph) h.1 (w.drewN q) d0 d3 (by omega))
  have hlf0 : ¬ leftN (sizeK k) (NK ph) < 0 := by
    have h4 := h.2.2.2.1
    unfold leftN at h1 ⊢
    by_cases hz : sizeK k = -1
    · rw [if_pos hz] at h1; exact absurd rfl h1
    · rw [if_neg hz]; rcases h4 with h4 | h4 <;> omega
  clear h ht hs d0 d3
  unfold RdIs
  generalize leftN (sizeK k) (NK ph) = lf at *
  have hge : (0 : Int) ≤ lf := by omega
  have n0 : ¬ (n : Int) < 0 := by omega
  have n1 : ¬ (65536 : Int) < (n : Int) := by omega
  go_enter Tryd.func39, Tryd.ntmps39
  go_wp2_with fail
  refine HR.out.mono ?_
  rintro e w' ⟨rfl, q, rfl⟩
  go_wp2_with fail
  refine (HL.out q).mono ?_
  rintro e w' ⟨rfl, rfl⟩
  go_wp2_with fail
  go_ret
  exact ⟨rfl, ph, HK.out q, (Fr.refl w _).drewN q, .inl rfl⟩
set_option maxRecDepth 100000 in
set_option maxHeartbeats 3200000 in
theorem read39_good (gt ga gb B k n : Nat) (ph : Option Nat) (L : List Nat) (v : Value) (hn : n ≤ 65536) (w : World) (ht : TwK w gt ga gb) (h : KT w B ga gb k ph L v) (hB : B ≤ w.heap.size) (hl : leftN (sizeK k) (NK ph) = -1 ∨ (n : Int) ≤ leftN (sizeK k) (NK ph)) (hph : NK ph ≤ 10000000) (hL : L.length ≤ 10000000) (htab : Tabs w) :
    Calls Tryd.prog 39 #[.pointer (some ⟨gt, 0, none⟩), .int .i64 (n : Nat)] w (RdIs B ga gb k ph L v w) := by
  obtain ⟨p1, p2, p3, p4, p5, p6⟩ := h.apart
  obtain ⟨a, s, hs⟩ := h.sp
  obtain ⟨⟨cd, hcd⟩, d0, _, _, d3⟩ := h.doc
  have g1 : ga ≠ gt := blk_ne hs.2.2.2.2 (show Blk w gt 44 _ from ht) (by decide)
  have g2 : gb ≠ gt := blk_ne hcd (show Blk w gt 44 _ from ht) (by decide)
  have HRA := Lib.hid (rd_a h n hn hl htab)
  have HRB := Lib.hid (fun w3 hw => rd_b h w3 hw n hn hL hph)
  have HKC := Lib.hid (show ∀ w', Fr w w' (fun j => j = ga) → w'.cell? ⟨gt, 0, none⟩ = some (.pointer (some ⟨ga, 0, none⟩)) ∧ w'.cell? ⟨gt, 1, none⟩ = some (.pointer (some ⟨gb, 0, none⟩)) ∧ w'.cell? ⟨gb, 0, none⟩ = some (.int .i64 (k : Nat)) ∧ w'.cell? ⟨gb, 3, none⟩ = some (.int .i64 (NK ph : Nat)) from fun w' hf => by
    have q := blk_fr (show Blk w gt 44 _ from ht) hf (fun e => g1 e.symm)
    have q2 : w'.heap[gb]? = w.heap[gb]? := hf.2.2.2.2 gb p5 (fun e => p1 e.symm)
    exact ⟨q.cell 0, q.cell 1, (cell_heap q2).trans d0, (cell_heap q2).trans d3⟩)
  have HLE := Lib.hid (fun (w' : World) (h0 : w'.cell? ⟨gb, 0, none⟩ = some (.int .i64 (k : Nat))) (h3 : w'.cell? ⟨gb, 3, none⟩ = some (.int .i64 (NK ph : Nat))) => refLeft_any gb k (NK ph) h.1 w' h0 h3 (by omega))
  have hsz4 := h.2.2.2.1
  have HKT := Lib.hid (show ∀ w', Fr w w' (fun j => j = ga ∨ j = gb) → SpAt w' ga k (sqS (rateK k) (s0K k L, 0) (NK ph + n)).2 true (leftN (sizeK k) (NK ph + n)) (sqS (rateK k) (s0K k L, 0) (NK ph + n)).1 → Blk w' gb 72 (rsG (.int .i64 (k : Nat)) v k (s0K k L) (NK ph + n)) → KT w' B ga gb k (some (NK ph + n)) L v from fun w' hf x1 x2 => by
    refine ⟨h.1, h.2.1, own_fr h.2.2.1 hf (fun j hj e => ?_), ?_, x1, x2⟩
    · rcases e with e | e
      · exact p2 (e ▸ hj)
      · exact p3 (e ▸ hj)
    · by_cases hz : sizeK k = -1
      · exact .inl hz
      · right
        have h5 := hsz4.resolve_left hz
        unfold leftN at hl
        rw [if_neg hz] at hl
        show ((NK ph + n : Nat) : Int) ≤ sizeK k
        push_cast
        rcases hl with hl | hl <;> omega)
  have XL := Lib.hid (partK_len k (s0K k L) (NK ph) n)
  have XT := Lib.hid (partK_lt k (s0K k L) (NK ph) n)
  obtain ⟨k0, k1, k2, k3⟩ := HKC.out w (Fr.refl _ _)
  have hlt0 : leftN (sizeK k) (NK ph) = -1 ∨ (¬ leftN (sizeK k) (NK ph) < 0 ∧ ¬ leftN (sizeK k) (NK ph) < (n : Int) ∧ 0 ≤ leftN (sizeK k) (NK ph)) := by
    rcases hl with q | q
    · exact .inl q
    · exact .inr (by omega)
  clear ht h hs hcd d0 d3 hl hsz4 htab
  unfold RdIs
  unfold RdA at HRA
  unfold MoreIs at HRB
  generalize leftN (sizeK k) (NK ph) = lf at *
  generalize partK k (s0K k L) (NK ph) n = X at *
  have n0 : ¬ (n : Int) < 0 := by omega
  have n1 : ¬ (65536 : Int) < (n : Int) := by omega
  rcases hlt0 with rfl | ⟨l1, l2, l3⟩
  all_goals
    go_enter Tryd.func39, Tryd.ntmps39
    go_wp2_with fail
    refine HRA.out.mono ?_
    rintro e w3 ⟨G, rfl, hG, hblk, hsp, hg3⟩
    have hf3 : Fr w w3 (fun j => j = ga) := Fr.grown hg3 (fun j e _ => by injection e with e; exact e.symm)
    have hs3 : w.heap.size ≤ w3.heap.size := hg3.size
    have HB3 := Lib.hid hblk
    have HS3 := Lib.hid hsp
    have HF3 := Lib.hid hf3
    clear hblk hsp hg3 hf3 k0 k1 k2 k3
    obtain ⟨k0, k1, k2, k3⟩ := HKC.out w3 HF3.out
    go_wp2_with fail
    refine (HLE.out w3 k2 k3).mono ?_
    rintro e w' ⟨rfl, rfl⟩
    go_wp2_with fail
    refine (HRB.out w3 HF3.out).mono ?_
    rintro e w5 ⟨v5, rfl, ho5, hb5, hg5⟩
    have hGb : G ≠ gb := by omega
    have HB5 := Lib.hid (HB3.out.grown hg5 (fun e => hGb (by injection e)))
    have hf5 : Fr w3 w5 (fun j => j = gb) := Fr.grown hg5 (fun j e _ => by injection e with e; exact e.symm)
    have hs5 : w3.heap.size ≤ w5.heap.size := hg5.size
    have HF5 := Lib.hid ((HF3.out.mono (fun j _ e => .inl e)).trans hf5 (fun j _ e => (.inr e : j = ga ∨ j = gb)))
    have HS5 := Lib.hid (sp_fr HS3.out hf5 p1)
    have HD5 := Lib.hid hb5
    obtain ⟨a5, c5, rfl, hin5, _⟩ := own_in ho5 XT.out (by omega)
    have HSA := Lib.hid (same_eq (some ⟨G, 0, none⟩) a5 n n c5 X w5 (row_blk HB5.out XL.out (by unfold maxLen; omega) XT.out) hin5.1)
    clear ho5 hb5 hg5 hf5 hin5 HB3 HS3 HF3
    go_wp2_with fail
    refine HSA.out.mono ?_
    rintro e w6 ⟨rfl, hb6⟩
    have hf6 : Fr w5 w6 (fun j => j = G) := Fr.below hb6
    have hs6 : w5.heap.size ≤ w6.heap.size := hb6.size
    have HB6 := Lib.hid (HB5.out.below' hb6)
    have HF6 := Lib.hid hf6
    clear hb6 hf6 HSA k0 k1 k2 k3
    go_wp2_with fail
    go_loopw [9] (fun v9 wr => ∃ (i : Nat) (X' : List Nat), v9 = .int .i64 i ∧ i ≤ n ∧ X'.length = n ∧ (∀ x ∈ X', x < 256) ∧ Blk wr G 5 (natsV .u8 X') ∧ Fr w5 wr (fun j => j = G)) (fun v9 _ => n - (intOf v9).toNat)
    case atStart => exact ⟨0, X, rfl, Nat.zero_le _, XL.out, XT.out, HB6.out, HF6.out⟩
    case round =>
      obtain ⟨i, X', rfl, hi, hx1, hx2, hbr, hfr⟩ := hrel
      have HBR := Lib.hid hbr
      have HFR := Lib.hid hfr
      by_cases hin : i < n
      · have hii : (i : Int) < (n : Int) := by omega
        have hc := hbr.nat i (by omega)
        have hf := hbr.free i
        have HK2 := Lib.hid (hbr.natSet i 55)
        have HG2 := Lib.hid (hfr.trans (Fr.grown (F := fun j => j = G) (grown_setCell wr ⟨G, i, none⟩ (.int .u8 (55 : Nat))) (fun j e _ => by injection e with e; exact e.symm)) (fun j _ e => e))
        clear hbr hfr
        go_wp2_with fail
        go_roundw
        case rel => exact ⟨i + 1, X'.set i 55, by go_num, by omega, by rw [List.length_set]; exact hx1, (fun x hx => by rcases List.mem_or_eq_of_mem_set hx with h1 | h1; exact hx2 x h1; omega), HK2.out, HG2.out⟩
        case measure => simp [intOf]; omega
      · obtain rfl : i = n := by omega
        have HOG := Lib.hid ((own_blk5 (B := w.heap.size) hbr hx1 (by unfold maxLen; omega) hG).alloc (.cells #[.int .u8 55, .int .u8 55] 5))
        have H55 := Lib.hid (bin_55 wr)
        have hwr : w5.heap.size ≤ wr.heap.size := hfr.2.2.2.1
        clear hbr hfr
        go_wp2_with (at_builtin; refine wpList_append_bytes _ rfl _ _ rfl w.heap.size (.slice (some ⟨G, 0, none⟩) i i) i X' rfl HOG.out (some ⟨wr.heap.size, 0, none⟩) 2 2 [55, 55] rfl H55.out ?c1 ?c2 ?_)
        case c1 => omega
        case c2 => simp; omega
        intro v7 w7 h1 h2
        have hf7 : Fr w5 w7 (fun j => j = G) := (HFR.out.trans (Fr.below ((Below.refl wr.heap.size wr).alloc (Nat.le_refl _) (.cells #[.int .u8 55, .int .u8 55] 5))) (fun j _ e => e)).trans (Fr.grown h2 (fun j e _ => by injection e with e; exact e.symm)) (fun j _ e => e)
        have hGn : ga ≠ G := by omega
        have HFN := Lib.hid (show Fr w w7 (fun j => j = ga ∨ j = gb) from HF5.out.trans hf7 (fun j hj e => by subst e; omega))
        have HSN := Lib.hid (sp_fr HS5.out hf7 hGn)
        have HDN := Lib.hid (blk_fr HD5.out hf7 (fun e => hGb e.symm))
        clear h1 h2 hf7 HOG H55
        go_wp2_with fail
        go_ret
        exact ⟨rfl, some (NK ph + i), HKT.out w7 HFN.out HSN.out HDN.out, HFN.out, .inr ⟨i, hn, rfl⟩⟩
theorem read39_any (gt ga gb B k : Nat) (ph : Option Nat) (L : List Nat) (v : Value) (n : Int) (h64 : -9223372036854775808 ≤ n ∧ n ≤ 9223372036854775807) (w : World) (ht : TwK w gt ga gb) (h : KT w B ga gb k ph L v) (hB : B ≤ w.heap.size) (hph : NK ph ≤ 10000000) (hL : L.length ≤ 10000000) (htab : Tabs w) :
    Calls Tryd.prog 39 #[.pointer (some ⟨gt, 0, none⟩), .int .i64 n] w (RdIs B ga gb k ph L v w) := by
  by_cases hb : n < 0 ∨ 65536 < n
  · exact read39_bad gt ga gb B k ph L v n hb h64 w ht h
  · obtain ⟨m, rfl⟩ := Int.eq_ofNat_of_zero_le (show 0 ≤ n by omega)
    by_cases hs : leftN (sizeK k) (NK ph) = -1 ∨ (m : Int) ≤ leftN (sizeK k) (NK ph)
    · exact read39_good gt ga gb B k m ph L v (by omega) w ht h hB hs hph hL htab
    · exact read39_spent gt ga gb B k m ph L v (by omega) w ht h (fun e => hs (.inl e)) (by omega) hph
end Go.Proofs.YtidnlaibfkjgpaaDoor
