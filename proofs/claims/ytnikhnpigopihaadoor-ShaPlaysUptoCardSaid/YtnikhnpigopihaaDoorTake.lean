/- Bytes taken in by a hash: the project's function leaves the state behind all whole blocks, and what is left. Condition: the tables; the bytes lie in no hash. -/
import Derived.Test.YtnikhnpigopihaaDoorTakeL
import Derived.Test.YtnikhnpigopihaaDoorMix
import Derived.Deep.RegionWith
import Derived.Deep.CutRange
namespace Go.Proofs.YtnikhnpigopihaaDoor
open Go.RowKit
set_option linter.unusedVariables false
set_option maxRecDepth 100000 in
set_option maxHeartbeats 1600000 in
theorem take_0 (g k n : Nat) (s t l : List Nat) (a : Option Addr) (m c : Nat) (w : World) (h : HashAt w g k n s t) (hb : BIn w a m c l) (hab : ∀ b, a = some b → 0 < m → b.block ≠ g) (h0 : n % (2 * wW k) = 0) (htab : Tabs w) :
    Calls Tryd.prog 45 #[.pointer (some ⟨g, 0, none⟩), .slice a m c] w (TakeIs g k (n + m) s (t ++ l) w) := by
  obtain ⟨hk, hn, hs, hx, ht, hg, r, hr, hr2, hrt, blk⟩ := h
  have hW : 2 * wW k = 16 * wB k := by unfold wW wB; split <;> rfl
  obtain rfl : t = [] := List.eq_nil_of_length_eq_zero (ht.trans h0)
  have HBS := Lib.hid (fun w => blockSize_any k hk w)
  have HHELD := Lib.hid (fun w => held_any g k n s r hk hn w)
  rw [← hW] at HBS HHELD
  rw [h0] at HHELD
  have hkc := hash_kind blk
  have htc := hash_taken blk
  have hfr := blk.free 1
  have hm := hb.1.2.1
  have hc1 := hb.2.1
  have hc2 := hb.2.2.1
  unfold maxLen at hm hc2
  have hsz : 64 ≤ 2 * wW k ∧ 2 * wW k ≤ 128 := by unfold wW; split <;> omega
  have BLK := Lib.hid blk
  have HB := Lib.hid hb
  have HAB := Lib.hid hab
  have HTAB := Lib.hid htab
  have hml := hb.2.2.2.1
  have HT0 := Lib.hid ht
  have HL0 := Lib.hid hb.1.1
  clear blk hb hab htab ht hrt
  obtain ⟨sz, hsz'⟩ : ∃ sz, 2 * wW k = sz := ⟨_, rfl⟩
  rw [hsz'] at hsz HBS h0
  have HSZ := Lib.hid hsz'
  have hadd : IntKind.u64.wrap ((n : Int) + (m : Int)) = (((n + m) % 2 ^ 64 : Nat) : Int) := u64_add n m
  clear hsz' h0 hW
  obtain ⟨n', hn'⟩ : ∃ n', (n + m) % 2 ^ 64 = n' := ⟨_, rfl⟩
  rw [hn'] at hadd
  have HN := Lib.hid hn'
  clear hn'
  go_enter Tryd.func45, Tryd.ntmps45
  go_wp2_with fail
  refine (HBS.out _).mono ?_
  rintro e w' ⟨rfl, rfl⟩
  go_wp2_with fail
  refine (HHELD.out _ BLK.out).mono ?_
  rintro e w' ⟨rfl, q, rfl⟩
  go_wp2_with fail
  have hset := hash_setTaken (BLK.out.drewN q) n'
  have hgr := grown_trans (grown_drewN (grown_refl w (some g)) q) (grown_setCell (w.drewN q) ⟨g, 1, none⟩ (.int .u64 (n' : Nat)))
  have hstart : TakeRel g k n' s ([] ++ l) w (.slice a m c) ((w.drewN q).setCell ⟨g, 1, none⟩ (.int .u64 (n' : Nat))) :=
    ⟨a, m, c, l, s, r, rfl, HB.out.grown hgr HAB.out, HAB.out, hs, hx, hr, hr2, hset, rfl, hgr, HTAB.out.grown hgr hg⟩
  clear hset hgr hs hr hkc htc hfr hadd HHELD
  go_loopw [1] (fun v wr => TakeRel g k n' s ([] ++ l) w v wr) (fun v _ => lenOf v)
  case atStart => exact hstart
  case round =>
    clear hstart hm hc1 hc2 hml BLK HB HAB HTAB hr2 hx
    obtain ⟨a', m', c', l', s', r', rfl, hb, hab, hs, hx, hr, hr2, blk, hgo, hgr, htab⟩ := hrel
    have hm := hb.1.2.1
    have hc1 := hb.2.1
    have hc2 := hb.2.2.1
    unfold maxLen at hm hc2
    have HLEN := Lib.hid hb.1.1
    by_cases hlt : sz ≤ m'
    · obtain ⟨b, off, rfl, _⟩ := hb.1.2.2.2.resolve_left (by omega)
      have HB := Lib.hid hb
      obtain ⟨a0, a1, a2, a3, a4, a5, a6, a7, hs8⟩ := list8 hs
      have hm8l := mix_length (W := wW k) (b := l'.take sz) hs
      obtain ⟨b0, b1, b2, b3, b4, b5, b6, b7, hm8⟩ := list8 hm8l
      have hdb := (Below.refl wr.heap.size wr).drew
      have hmix := mix_any k hk s' sz c' b off (l'.take sz) wr.drew hs hx (bin_head (hb.below hdb) hlt (by omega)) HSZ.out.symm (htab.below hdb)
      have HSTEP := Lib.hid (goes_hi (W := wW k) (s := s') (l := l') (by unfold wW; split <;> omega) (by rw [HSZ.out, HLEN.out]; exact hlt))
      rw [HSZ.out] at HSTEP
      have HMX := Lib.hid (mix_lt (W := wW k) s' (l'.take sz))
      have HMX0 := Lib.hid (show ∀ x ∈ [b0, b1, b2, b3, b4, b5, b6, b7], x < 2 ^ wW k from by rw [← hm8]; exact mix_lt (W := wW k) _ _)
      rw [hm8] at hmix HSTEP HMX
      subst hs8
      have HMIX := Lib.hid (show Calls Tryd.prog 53 #[.int .u8 (k : Nat), .agg #[.int .u64 (a0 : Nat), .int .u64 (a1 : Nat), .int .u64 (a2 : Nat), .int .u64 (a3 : Nat), .int .u64 (a4 : Nat), .int .u64 (a5 : Nat), .int .u64 (a6 : Nat), .int .u64 (a7 : Nat)], .slice (some ⟨b, off, none⟩) sz c'] wr.drew
        (fun e w' => e = .returned (.agg #[.int .u64 (b0 : Nat), .int .u64 (b1 : Nat), .int .u64 (b2 : Nat), .int .u64 (b3 : Nat), .int .u64 (b4 : Nat), .int .u64 (b5 : Nat), .int .u64 (b6 : Nat), .int .u64 (b7 : Nat)]) ∧ Below wr.heap.size wr w') from hmix.mono fun e w' h => ⟨h.1, ⟨h.2.os, h.2.tape, h.2.output, h.2.size, h.2.block⟩⟩)
      have ENDK := Lib.hid (fun (A : Option Addr) (hA : A = some ⟨b, off, none⟩ ∧ m' - sz = 0 ∨ A = some ⟨b, off + sz, none⟩) (w1 : World) (hb1 : Below wr.heap.size wr w1) =>
        takeEnd (b := b) (off := off) (t' := [b0, b1, b2, b3, b4, b5, b6, b7]) blk hb HMX0.out hr hr2 hlt (by omega) (hab _ rfl (by omega)) hgr htab hg (rfl) hA hb1)
      have hkc := hash_kind blk
      have WFACTS := Lib.hid (fun (w1 : World) (hb1 : Below wr.heap.size wr w1) => wordFacts (blk.below' hb1))
      obtain ⟨p0, p1, p2, p3, p4, p5, p6, p7, f0, f1, f2, f3, f4, f5, f6, f7⟩ := wordFacts blk
      have hcI : (sz : Int) ≤ (c' : Int) := by omega
      have hs0I : (0 : Int) ≤ (sz : Int) := by omega
      have BLK := Lib.hid blk
      have HGO := Lib.hid hgo
      have HGR := Lib.hid hgr
      have HX := Lib.hid hx
      clear blk hgo hgr htab hs hdb hm8l hm8 hmix hx
      go_wp2_with fail
      go_region_with (go_at_call 53; refine HMIX.out.mono ?_; rintro e w1 ⟨rfl, hb1⟩; obtain ⟨p0, p1, p2, p3, p4, p5, p6, p7, f0, f1, f2, f3, f4, f5, f6, f7⟩ := WFACTS.out w1 hb1)
      all_goals
        clear p0 p1 p2 p3 p4 p5 p6 p7 f0 f1 f2 f3 f4 f5 f6 f7
        go_wp2_with fail
        go_roundw
        case rel =>
          obtain ⟨z1, z2, z3, z4, z5⟩ := ENDK.out (if c' = sz then some ⟨b, off, none⟩ else some ⟨b, off + sz, none⟩) (by split; exact .inl ⟨rfl, by omega⟩; exact .inr rfl) _ hb1
          exact ⟨_, _, _, _, _, r', rfl, z3, z4, rfl, HMX0.out, hr, hr2, z1, HSTEP.out.symm.trans HGO.out, z2, z5⟩
        case measure => simp [lenOf]; omega
    · have hsrc := src_cells hb m' (Nat.le_refl _)
      rw [List.take_of_length_le (by rw [HLEN.out]; omega)] at hsrc
      have HSRC := Lib.hid hsrc
      have hfin := fun (w2 : World) (h : Blk w2 g 72 (hashV k ((n + m) % 2 ^ 64) s' (splice r' 0 l'))) => takeFin (L := l) (t := []) (n := n) (m := m) hk hs hx hg HT0.out HL0.out hgo (by rw [HSZ.out, HLEN.out]; omega) hb.1.2.2.1 hr hr2 h
      rw [HN.out] at hfin
      have HFIN := Lib.hid hfin
      have HSP := Lib.hid (hash_splice k n' s' r' l' 0 hs)
      have hfit : 10 + (natsV .u8 l').length ≤ (hashV k n' s' r').length := by simp [hashV, natsV_length, hs, hr, HLEN.out]; omega
      have HFIT := Lib.hid hfit
      have hmin : (natsV .u8 l').length = Nat.min m' 128 := by rw [natsV_length, HLEN.out]; exact (Nat.min_eq_left (by omega)).symm
      have HMIN := Lib.hid hmin
      have BLK := Lib.hid blk
      have HGR := Lib.hid hgr
      clear hb hsrc hfin hfit hmin blk hgr htab hgo hs hx hr hr2
      go_wp2_with (refine wpList_copy_blk rfl (.tmp 84) (.tmp 85) 22 22 rfl 5 Tryd.underlying22 info5s (some ⟨g, 10, none⟩) a' 128 128 m' c' rfl rfl g 10 (hashV k n' s' r') 72 BLK.out (natsV .u8 l') HMIN.out ?pos HFIT.out (natsV_one _ _) ?_)
      case pos => first | exact HSRC.out | exact fun h => ⟨rfl, HSRC.out h⟩
      intro w2 h1 h2
      rw [HSP.out] at h1
      go_wp2_with fail
      go_end0
      exact ⟨rfl, by rw [HN.out]; exact HFIN.out w2 h1, grown_trans HGR.out h2⟩
theorem splice_take {r l : List Nat} {i : Nat} (hi : i ≤ r.length) : (splice r i l).take (r.take i ++ l).length = r.take i ++ l := by
  unfold splice; rw [← List.append_assoc]; exact List.take_left
theorem splice_bytes {r l : List Nat} {i : Nat} (hr : ∀ x ∈ r, x < 256) (hl : ∀ x ∈ l, x < 256) : ∀ x ∈ splice r i l, x < 256 := by
  intro x hx
  unfold splice at hx
  rcases List.mem_append.1 hx with h | h
  · exact hr x (List.mem_of_mem_take h)
  · rcases List.mem_append.1 h with h | h
    · exact hl x h
    · exact hr x (List.mem_of_mem_drop h)
theorem rest_bin {w : World} {g k n sz : Nat} {s r : List Nat} (h : Blk w g 72 (hashV k n s r)) (hs : s.length = 8) (hr : r.length = 128) (hb : ∀ x ∈ r, x < 256) (hz : sz ≤ 128) : BIn w (some ⟨g, 10, none⟩) sz 128 (r.take sz) := by
  refine ⟨⟨by simp; omega, by unfold maxLen; omega, fun x hx => hb x (List.mem_of_mem_take hx), .inr ⟨g, 10, rfl, fun i hi => ?_⟩⟩, hz, by unfold maxLen; omega, by omega, fun h => by cases h⟩
  rw [hash_rest h hs i (by omega)]
  congr 3
  simp only [List.getD_eq_getElem?_getD, List.getElem?_take]
  rw [if_pos hi]
theorem takeMid {w w2 w1 : World} {g k n m c : Nat} {s r t' l : List Nat} {a : Option Addr} (blk : Blk w2 g 72 (hashV k n s r)) (hl : s.length = t'.length) (hgr : w.grownBy w2 (some g)) (hg : 2 ≤ g) (hb : BIn w a m c l) (hab : ∀ b, a = some b → 0 < m → b.block ≠ g) (htab : Tabs w)
    (hb1 : Below w2.heap.size w2 w1) : Blk (w1.setCells g 2 (natsV .u64 t')) g 72 (hashV k n t' r) ∧ w.grownBy (w1.setCells g 2 (natsV .u64 t')) (some g) ∧ Tabs (w1.setCells g 2 (natsV .u64 t')) ∧ BIn (w1.setCells g 2 (natsV .u64 t')) a m c l := by
  have hg1 := grown_trans hgr (grown_trans (grown_below hb1 (some g)) (grown_setCells g (natsV .u64 t') 2 w1))
  exact ⟨hash_setWords (blk.below' hb1) hl, hg1, htab.grown hg1 hg, hb.grown hg1 hab⟩
set_option maxRecDepth 100000 in
set_option maxHeartbeats 4000000 in
theorem take_1 (g k n : Nat) (s t l : List Nat) (a : Option Addr) (m c : Nat) (w : World) (h : HashAt w g k n s t) (hb : BIn w a m c l) (hab : ∀ b, a = some b → 0 < m → b.block ≠ g) (h0 : 0 < n % (2 * wW k)) (hcase : n % (2 * wW k) + m < 2 * wW k) (htab : Tabs w) :
    Calls Tryd.prog 45 #[.pointer (some ⟨g, 0, none⟩), .slice a m c] w (TakeIs g k (n + m) s (t ++ l) w) := by
  obtain ⟨hk, hn, hs, hx, ht, hg, r, hr, hr2, hrt, blk⟩ := h
  have hW : 2 * wW k = 16 * wB k := by unfold wW wB; split <;> rfl
  have HBS := Lib.hid (fun w => blockSize_any k hk w)
  have HHELD := Lib.hid (fun w => held_any g k n s r hk hn w)
  rw [← hW] at HBS HHELD
  have hkc := hash_kind blk
  have htc := hash_taken blk
  have hfr := blk.free 1
  have hm := hb.1.2.1
  have hc1 := hb.2.1
  have hc2 := hb.2.2.1
  unfold maxLen at hm hc2
  have hsz : 64 ≤ 2 * wW k ∧ 2 * wW k ≤ 128 := by unfold wW; split <;> omega
  have hdl : n % (2 * wW k) < 2 * wW k := Nat.mod_lt _ (by omega)
  have BLK := Lib.hid blk
  have HB := Lib.hid hb
  have HAB := Lib.hid hab
  have HTAB := Lib.hid htab
  have hml := hb.2.2.2.1
  have HT0 := Lib.hid ht
  have HRT := Lib.hid hrt
  have HL0 := Lib.hid hb.1.1
  have HLB := Lib.hid hb.1.2.2.1
  clear blk hb hab htab
  obtain ⟨hd, hhd⟩ : ∃ hd, n % (2 * wW k) = hd := ⟨_, rfl⟩
  rw [hhd] at hdl h0 hcase HHELD ht
  rw [ht] at hrt
  have HHD := Lib.hid hhd
  have HTL := Lib.hid ht
  have HRTH := Lib.hid hrt
  clear ht hrt
  obtain ⟨sz, hsz'⟩ : ∃ sz, 2 * wW k = sz := ⟨_, rfl⟩
  rw [hsz'] at hsz HBS hdl hcase
  have HSZ := Lib.hid hsz'
  have hadd : IntKind.u64.wrap ((n : Int) + (m : Int)) = (((n + m) % 2 ^ 64 : Nat) : Int) := u64_add n m
  clear hsz' hW hhd
  obtain ⟨n', hn'⟩ : ∃ n', (n + m) % 2 ^ 64 = n' := ⟨_, rfl⟩
  rw [hn'] at hadd
  have HN := Lib.hid hn'
  clear hn'
  go_enter Tryd.func45, Tryd.ntmps45
  go_wp2_with fail
  refine (HBS.out _).mono ?_
  rintro e w' ⟨rfl, rfl⟩
  go_wp2_with fail
  refine (HHELD.out _ BLK.out).mono ?_
  rintro e w' ⟨rfl, q, rfl⟩
  have SET := Lib.hid (hash_setTaken (BLK.out.drewN q) n')
  have GR := Lib.hid (grown_trans (grown_drewN (grown_refl w (some g)) q) (grown_setCell (w.drewN q) ⟨g, 1, none⟩ (.int .u64 (n' : Nat))))
  have HB1 := Lib.hid (HB.out.grown GR.out HAB.out)
  have hdI : (hd : Int) ≤ (sz : Int) := by omega
  have hd0 : 0 < (hd : Int) := by omega
  have szI : (sz : Int) ≤ 128 := by omega
  have HS := Lib.hid hs
  have HX := Lib.hid hx
  have HR := Lib.hid hr
  have HR2 := Lib.hid hr2
  clear hs hx hr hr2 HHELD
  have hsrc := src_cells HB1.out m (Nat.le_refl _)
  rw [List.take_of_length_le (by rw [HL0.out]; omega)] at hsrc
  have HSRC := Lib.hid hsrc
  have HSP := Lib.hid (hash_splice k n' s r l hd HS.out)
  have HFIT := Lib.hid (show 10 + hd + (natsV .u8 l).length ≤ (hashV k n' s r).length from by simp [hashV, natsV_length, HS.out, HR.out, HL0.out]; omega)
  have hlen : (natsV .u8 l).length = m := by rw [natsV_length, HL0.out]
  have HMIN := Lib.hid (show (natsV .u8 l).length = Nat.min m (sz - hd) from by rw [hlen]; exact (Nat.min_eq_left (by omega)).symm)
  have htst : (hd : Int) + (m : Int) < (sz : Int) := by omega
  clear hsrc
  go_wp2_with (refine wpList_copy_blk rfl (.tmp 31) (.tmp 32) 22 22 rfl 5 Tryd.underlying22 info5s (some ⟨g, 10 + hd, none⟩) a (sz - hd) (128 - hd) m c rfl rfl g (10 + hd) (hashV k n' s r) 72 SET.out (natsV .u8 l) HMIN.out ?pos HFIT.out (natsV_one _ _) ?_)
  case pos => first | exact HSRC.out | exact fun h => HSRC.out (by rw [hlen]; exact h) | exact fun h => ⟨rfl, HSRC.out h⟩ | exact fun h => ⟨rfl, HSRC.out (by rw [hlen]; exact h)⟩
  intro w2 h1 h2
  rw [HSP.out] at h1
  have H1 := Lib.hid h1
  have H2 := Lib.hid h2
  clear h1 h2
  go_wp2_with fail
  go_end0
  have hgo : goes (wW k) s (t ++ l) = (s, t ++ l) := goes_lo (by rw [List.length_append, HTL.out, HL0.out, HSZ.out]; omega)
  refine ⟨rfl, ?_, grown_trans GR.out H2.out⟩
  rw [hgo, HN.out]
  refine ⟨hk, by rw [← HN.out]; exact Nat.mod_lt _ (by decide), HS.out, HX.out, ?_, hg, splice r hd l, ?_, ?_, ?_, H1.out⟩
  · have e : (n % (2 * wW k) + m) % (2 * wW k) = n % (2 * wW k) + m := Nat.mod_eq_of_lt (by rw [HHD.out, HSZ.out]; omega)
    rw [List.length_append, HL0.out, HT0.out, ← HN.out, pow64_mod _ _ (wW_or k), ← Nat.mod_add_mod, e]
  · rw [length_splice _ _ _ (by rw [HR.out, HL0.out]; omega)]; exact HR.out
  · exact splice_bytes HR2.out HLB.out
  · show (splice r hd l).take (t ++ l).length = t ++ l
    rw [← HRTH.out]; exact splice_take (by rw [HR.out]; omega)
set_option maxRecDepth 100000 in
set_option maxHeartbeats 4000000 in
theorem take_2 (g k n : Nat) (s t l : List Nat) (a : Option Addr) (m c : Nat) (w : World) (h : HashAt w g k n s t) (hb : BIn w a m c l) (hab : ∀ b, a = some b → 0 < m → b.block ≠ g) (h0 : 0 < n % (2 * wW k)) (hcase : 2 * wW k ≤ n % (2 * wW k) + m) (htab : Tabs w) :
    Calls Tryd.prog 45 #[.pointer (some ⟨g, 0, none⟩), .slice a m c] w (TakeIs g k (n + m) s (t ++ l) w) := by
  obtain ⟨hk, hn, hs, hx, ht, hg, r, hr, hr2, hrt, blk⟩ := h
  have hW : 2 * wW k = 16 * wB k := by unfold wW wB; split <;> rfl
  have HBS := Lib.hid (fun w => blockSize_any k hk w)
  have HHELD := Lib.hid (fun w => held_any g k n s r hk hn w)
  rw [← hW] at HBS HHELD
  have hkc := hash_kind blk
  have htc := hash_taken blk
  have hfr := blk.free 1
  have hm := hb.1.2.1
  have hc1 := hb.2.1
  have hc2 := hb.2.2.1
  unfold maxLen at hm hc2
  have hsz : 64 ≤ 2 * wW k ∧ 2 * wW k ≤ 128 := by unfold wW; split <;> omega
  have hdl : n % (2 * wW k) < 2 * wW k := Nat.mod_lt _ (by omega)
  have BLK := Lib.hid blk
  have HB := Lib.hid hb
  have HAB := Lib.hid hab
  have HTAB := Lib.hid htab
  have hml := hb.2.2.2.1
  have HT0 := Lib.hid ht
  have HRT := Lib.hid hrt
  have HL0 := Lib.hid hb.1.1
  have HLB := Lib.hid hb.1.2.2.1
  clear blk hb hab htab
  obtain ⟨hd, hhd⟩ : ∃ hd, n % (2 * wW k) = hd := ⟨_, rfl⟩
  rw [hhd] at hdl h0 hcase HHELD ht
  rw [ht] at hrt
  have HHD := Lib.hid hhd
  have HTL := Lib.hid ht
  have HRTH := Lib.hid hrt
  clear ht hrt
  obtain ⟨sz, hsz'⟩ : ∃ sz, 2 * wW k = sz := ⟨_, rfl⟩
  rw [hsz'] at hsz HBS hdl hcase
  have HSZ := Lib.hid hsz'
  have hadd : IntKind.u64.wrap ((n : Int) + (m : Int)) = (((n + m) % 2 ^ 64 : Nat) : Int) := u64_add n m
  clear hsz' hW hhd
  obtain ⟨n', hn'⟩ : ∃ n', (n + m) % 2 ^ 64 = n' := ⟨_, rfl⟩
  rw [hn'] at hadd
  have HN := Lib.hid hn'
  clear hn'
  go_enter Tryd.func45, Tryd.ntmps45
  go_wp2_with fail
  refine (HBS.out _).mono ?_
  rintro e w' ⟨rfl, rfl⟩
  go_wp2_with fail
  refine (HHELD.out _ BLK.out).mono ?_
  rintro e w' ⟨rfl, q, rfl⟩
  have SET := Lib.hid (hash_setTaken (BLK.out.drewN q) n')
  have GR := Lib.hid (grown_trans (grown_drewN (grown_refl w (some g)) q) (grown_setCell (w.drewN q) ⟨g, 1, none⟩ (.int .u64 (n' : Nat))))
  have HB1 := Lib.hid (HB.out.grown GR.out HAB.out)
  have hdI : (hd : Int) ≤ (sz : Int) := by omega
  have hd0 : 0 < (hd : Int) := by omega
  have szI : (sz : Int) ≤ 128 := by omega
  have HS := Lib.hid hs
  have HX := Lib.hid hx
  have HR := Lib.hid hr
  have HR2 := Lib.hid hr2
  clear hs hx hr hr2 HHELD
  obtain ⟨mm, hmm⟩ : ∃ mm, sz - hd = mm := ⟨_, rfl⟩
  have hmmI : hd + mm = sz := by omega
  have hsrc := src_cells HB1.out mm (by omega)
  have HSRC := Lib.hid hsrc
  obtain ⟨lh, hlh⟩ : ∃ lh, l.take mm = lh := ⟨_, rfl⟩
  rw [hlh] at HSRC
  have hll : lh.length = mm := by rw [← hlh, List.length_take, HL0.out]; omega
  have HLL := Lib.hid hll
  have HLH := Lib.hid hlh
  have HLHB := Lib.hid (show ∀ x ∈ lh, x < 256 from fun x hx => HLB.out x (by rw [← hlh] at hx; exact List.mem_of_mem_take hx))
  have HSP := Lib.hid (hash_splice k n' s r lh hd HS.out)
  have HFIT := Lib.hid (show 10 + hd + (natsV .u8 lh).length ≤ (hashV k n' s r).length from by simp [hashV, natsV_length, HS.out, HR.out, hll]; omega)
  have hlen : (natsV .u8 lh).length = mm := by rw [natsV_length, hll]
  have HMIN := Lib.hid (show (natsV .u8 lh).length = Nat.min m (sz - hd) from by rw [hlen, hmm]; exact (Nat.min_eq_right (by omega)).symm)
  have htst : decide ((hd : Int) + (mm : Int) < (sz : Int)) = false := by simp; omega
  have HMM := Lib.hid hmm
  clear hsrc hll hlh hmm
  go_wp2_with (refine wpList_copy_blk rfl (.tmp 31) (.tmp 32) 22 22 rfl 5 Tryd.underlying22 info5s (some ⟨g, 10 + hd, none⟩) a (sz - hd) (128 - hd) m c rfl rfl g (10 + hd) (hashV k n' s r) 72 SET.out (natsV .u8 lh) HMIN.out ?pos HFIT.out (natsV_one _ _) ?_)
  case pos => first | exact HSRC.out | exact fun h => HSRC.out (by rw [hlen]; exact h) | exact fun h => ⟨rfl, HSRC.out h⟩ | exact fun h => ⟨rfl, HSRC.out (by rw [hlen]; exact h)⟩
  intro w2 h1 h2
  rw [HSP.out] at h1
  have hr2l : (splice r hd lh).length = 128 := by rw [length_splice _ _ _ (by rw [HR.out, HLL.out]; omega)]; exact HR.out
  have hr2b : ∀ x ∈ splice r hd lh, x < 256 := splice_bytes HR2.out HLHB.out
  have hr2t : (splice r hd lh).take sz = t ++ lh := by
    have := splice_take (r := r) (l := lh) (i := hd) (by rw [HR.out]; omega)
    rw [HRTH.out] at this
    rw [← this, List.length_append, HTL.out, HLL.out, hmmI]
  generalize splice r hd lh = r2 at *
  have hbr := rest_bin (sz := sz) h1 HS.out hr2l hr2b (by omega)
  rw [hr2t] at hbr
  have hgr2 := grown_trans GR.out h2
  have htab2 := HTAB.out.grown hgr2 hg
  obtain ⟨a0, a1, a2, a3, a4, a5, a6, a7, hs8⟩ := list8 HS.out
  have hm8l := mix_length (W := wW k) (b := t ++ lh) HS.out
  obtain ⟨b0, b1, b2, b3, b4, b5, b6, b7, hm8⟩ := list8 hm8l
  have hdb := (Below.refl w2.heap.size w2).drew
  have hmix := mix_any k hk s sz 128 g 10 (t ++ lh) w2.drew HS.out HX.out (hbr.below hdb) HSZ.out.symm (htab2.below hdb)
  have HSTEP := Lib.hid (show goes (wW k) (mix (wW k) s (t ++ lh)) (l.drop mm) = goes (wW k) s (t ++ l) from by
    rw [goes_hi (W := wW k) (s := s) (l := t ++ l) (by unfold wW; split <;> omega) (by rw [HSZ.out, List.length_append, HTL.out, HL0.out]; omega), HSZ.out]
    have e1 : (t ++ l).take sz = t ++ lh := by rw [← hmmI, ← HTL.out, List.take_length_add_append, HLH.out]
    have e2 : (t ++ l).drop sz = l.drop mm := by rw [← hmmI, ← HTL.out, List.drop_length_add_append]
    rw [e1, e2])
  have HMX0 := Lib.hid (show ∀ x ∈ [b0, b1, b2, b3, b4, b5, b6, b7], x < 2 ^ wW k from by rw [← hm8]; exact mix_lt (W := wW k) _ _)
  rw [hm8] at hmix HSTEP
  rw [hs8] at hmix h1
  have HMIX := Lib.hid (show Calls Tryd.prog 53 #[.int .u8 (k : Nat), .agg #[.int .u64 (a0 : Nat), .int .u64 (a1 : Nat), .int .u64 (a2 : Nat), .int .u64 (a3 : Nat), .int .u64 (a4 : Nat), .int .u64 (a5 : Nat), .int .u64 (a6 : Nat), .int .u64 (a7 : Nat)], .slice (some ⟨g, 10, none⟩) sz 128] w2.drew
    (fun e w' => e = .returned (.agg #[.int .u64 (b0 : Nat), .int .u64 (b1 : Nat), .int .u64 (b2 : Nat), .int .u64 (b3 : Nat), .int .u64 (b4 : Nat), .int .u64 (b5 : Nat), .int .u64 (b6 : Nat), .int .u64 (b7 : Nat)]) ∧ Below w2.heap.size w2 w') from hmix.mono fun e w' h => ⟨h.1, ⟨h.2.os, h.2.tape, h.2.output, h.2.size, h.2.block⟩⟩)
  have ENDK := Lib.hid (fun (w1 : World) (hb1 : Below w2.heap.size w2 w1) => takeMid (w := w) (t' := [b0, b1, b2, b3, b4, b5, b6, b7]) h1 rfl hgr2 hg HB.out HAB.out HTAB.out hb1)
  have hkc2 := hash_kind h1
  have WFACTS := Lib.hid (fun (w1 : World) (hb1 : Below w2.heap.size w2 w1) => wordFacts (h1.below' hb1))
  obtain ⟨p0, p1, p2, p3, p4, p5, p6, p7, f0, f1, f2, f3, f4, f5, f6, f7⟩ := wordFacts h1
  have HR2L := Lib.hid hr2l
  have HR2B := Lib.hid hr2b
  clear h1 h2 hbr hgr2 htab2 hdb hm8l hm8 hmix hs8 hr2t hr2l hr2b
  go_upto_region 6 with (fail)
  go_cut [] from 39 to 55 (fun wx => Blk wx g 72 (hashV k n' [b0, b1, b2, b3, b4, b5, b6, b7] r2) ∧ w.grownBy wx (some g) ∧ Tabs wx ∧ BIn wx a m c l)
  case first =>
    go_region_with (go_at_call 53; refine HMIX.out.mono ?_; rintro e w1 ⟨rfl, hb1⟩; obtain ⟨p0, p1, p2, p3, p4, p5, p6, p7, f0, f1, f2, f3, f4, f5, f6, f7⟩ := WFACTS.out w1 hb1)
    all_goals
      clear p0 p1 p2 p3 p4 p5 p6 p7 f0 f1 f2 f3 f4 f5 f6 f7
      go_wp2_with fail
      go_meet
      case rel => exact ENDK.out w1 hb1
  case rest =>
    clear p0 p1 p2 p3 p4 p5 p6 p7 f0 f1 f2 f3 f4 f5 f6 f7 hkc2
    obtain ⟨x1, x2, x3, x4⟩ := hcut
    obtain ⟨b, off, rfl, _⟩ := HB.out.1.2.2.2.resolve_left (by omega)
    by_cases hcc : c = mm
    · obtain rfl : m = c := by omega
      obtain rfl : m = mm := hcc
      have hdr : l.drop m = [] := List.drop_of_length_le (by rw [HL0.out]; omega)
      rw [hdr] at HSTEP
      have hstart : TakeRel g k n' s (t ++ l) w (.slice (some ⟨b, off, none⟩) 0 0) wc :=
        ⟨_, _, _, [], _, r2, rfl, bin_empty _ _ _ (Nat.zero_le _) (fun e => by cases e), (fun _ _ h0 => absurd h0 (by omega)), rfl, HMX0.out, HR2L.out, HR2B.out, x1, HSTEP.out, x2, x3⟩
      clear hdr
      clear x1 x2 x3 x4 HMIX ENDK WFACTS HSTEP HMX0 HR2L HR2B SET GR HB1 HSRC HSP HFIT HMIN hkc htc hfr hadd hdI htst
      go_wp2_with fail
      go_loopw [1] (fun v wr => TakeRel g k n' s (t ++ l) w v wr) (fun v _ => lenOf v)
      case atStart => exact hstart
      case round =>
        clear hstart hm hc1 hc2 hml BLK HB HAB HTAB HS HX HR HR2 hdl h0 hcase HRT HRTH hd0 szI hmmI hlen HLB HLH HLHB HLL HMM
        obtain ⟨a', m', c', l', s', r', rfl, hb, hab, hs, hx, hr, hr2, blk, hgo, hgr, htab⟩ := hrel
        have hm := hb.1.2.1
        have hc1 := hb.2.1
        have hc2 := hb.2.2.1
        unfold maxLen at hm hc2
        have HLEN := Lib.hid hb.1.1
        by_cases hlt : sz ≤ m'
        · obtain ⟨b, off, rfl, _⟩ := hb.1.2.2.2.resolve_left (by omega)
          have HB := Lib.hid hb
          obtain ⟨a0, a1, a2, a3, a4, a5, a6, a7, hs8⟩ := list8 hs
          have hm8l := mix_length (W := wW k) (b := l'.take sz) hs
          obtain ⟨b0, b1, b2, b3, b4, b5, b6, b7, hm8⟩ := list8 hm8l
          have hdb := (Below.refl wr.heap.size wr).drew
          have hmix := mix_any k hk s' sz c' b off (l'.take sz) wr.drew hs hx (bin_head (hb.below hdb) hlt (by omega)) HSZ.out.symm (htab.below hdb)
          have HSTEP := Lib.hid (goes_hi (W := wW k) (s := s') (l := l') (by unfold wW; split <;> omega) (by rw [HSZ.out, HLEN.out]; exact hlt))
          rw [HSZ.out] at HSTEP
          have HMX := Lib.hid (mix_lt (W := wW k) s' (l'.take sz))
          have HMX0 := Lib.hid (show ∀ x ∈ [b0, b1, b2, b3, b4, b5, b6, b7], x < 2 ^ wW k from by rw [← hm8]; exact mix_lt (W := wW k) _ _)
          rw [hm8] at hmix HSTEP HMX
          subst hs8
          have HMIX := Lib.hid (show Calls Tryd.prog 53 #[.int .u8 (k : Nat), .agg #[.int .u64 (a0 : Nat), .int .u64 (a1 : Nat), .int .u64 (a2 : Nat), .int .u64 (a3 : Nat), .int .u64 (a4 : Nat), .int .u64 (a5 : Nat), .int .u64 (a6 : Nat), .int .u64 (a7 : Nat)], .slice (some ⟨b, off, none⟩) sz c'] wr.drew
            (fun e w' => e = .returned (.agg #[.int .u64 (b0 : Nat), .int .u64 (b1 : Nat), .int .u64 (b2 : Nat), .int .u64 (b3 : Nat), .int .u64 (b4 : Nat), .int .u64 (b5 : Nat), .int .u64 (b6 : Nat), .int .u64 (b7 : Nat)]) ∧ Below wr.heap.size wr w') from hmix.mono fun e w' h => ⟨h.1, ⟨h.2.os, h.2.tape, h.2.output, h.2.size, h.2.block⟩⟩)
          have ENDK := Lib.hid (fun (A : Option Addr) (hA : A = some ⟨b, off, none⟩ ∧ m' - sz = 0 ∨ A = some ⟨b, off + sz, none⟩) (w1 : World) (hb1 : Below wr.heap.size wr w1) =>
            takeEnd (b := b) (off := off) (t' := [b0, b1, b2, b3, b4, b5, b6, b7]) blk hb HMX0.out hr hr2 hlt (by omega) (hab _ rfl (by omega)) hgr htab hg (rfl) hA hb1)
          have hkc := hash_kind blk
          have WFACTS := Lib.hid (fun (w1 : World) (hb1 : Below wr.heap.size wr w1) => wordFacts (blk.below' hb1))
          obtain ⟨p0, p1, p2, p3, p4, p5, p6, p7, f0, f1, f2, f3, f4, f5, f6, f7⟩ := wordFacts blk
          have hcI : (sz : Int) ≤ (c' : Int) := by omega
          have hs0I : (0 : Int) ≤ (sz : Int) := by omega
          have BLK := Lib.hid blk
          have HGO := Lib.hid hgo
          have HGR := Lib.hid hgr
          have HX := Lib.hid hx
          clear blk hgo hgr htab hs hdb hm8l hm8 hmix hx
          go_wp2_with fail
          go_region_with (go_at_call 53; refine HMIX.out.mono ?_; rintro e w1 ⟨rfl, hb1⟩; obtain ⟨p0, p1, p2, p3, p4, p5, p6, p7, f0, f1, f2, f3, f4, f5, f6, f7⟩ := WFACTS.out w1 hb1)
          all_goals
            clear p0 p1 p2 p3 p4 p5 p6 p7 f0 f1 f2 f3 f4 f5 f6 f7
            go_wp2_with fail
            go_roundw
            case rel =>
              obtain ⟨z1, z2, z3, z4, z5⟩ := ENDK.out (if c' = sz then some ⟨b, off, none⟩ else some ⟨b, off + sz, none⟩) (by split; exact .inl ⟨rfl, by omega⟩; exact .inr rfl) _ hb1
              exact ⟨_, _, _, _, _, r', rfl, z3, z4, rfl, HMX0.out, hr, hr2, z1, HSTEP.out.symm.trans HGO.out, z2, z5⟩
            case measure => simp [lenOf]; omega
        · have hsrc := src_cells hb m' (Nat.le_refl _)
          rw [List.take_of_length_le (by rw [HLEN.out]; omega)] at hsrc
          have HSRC := Lib.hid hsrc
          have hfin := fun (w2 : World) (h : Blk w2 g 72 (hashV k ((n + m) % 2 ^ 64) s' (splice r' 0 l'))) => takeFin (L := l) (t := t) (n := n) (m := m) hk hs hx hg HT0.out HL0.out hgo (by rw [HSZ.out, HLEN.out]; omega) hb.1.2.2.1 hr hr2 h
          rw [HN.out] at hfin
          have HFIN := Lib.hid hfin
          have HSP := Lib.hid (hash_splice k n' s' r' l' 0 hs)
          have hfit : 10 + (natsV .u8 l').length ≤ (hashV k n' s' r').length := by simp [hashV, natsV_length, hs, hr, HLEN.out]; omega
          have HFIT := Lib.hid hfit
          have hmin : (natsV .u8 l').length = Nat.min m' 128 := by rw [natsV_length, HLEN.out]; exact (Nat.min_eq_left (by omega)).symm
          have HMIN := Lib.hid hmin
          have BLK := Lib.hid blk
          have HGR := Lib.hid hgr
          clear hb hsrc hfin hfit hmin blk hgr htab hgo hs hx hr hr2
          go_wp2_with (refine wpList_copy_blk rfl (.tmp 84) (.tmp 85) 22 22 rfl 5 Tryd.underlying22 info5s (some ⟨g, 10, none⟩) a' 128 128 m' c' rfl rfl g 10 (hashV k n' s' r') 72 BLK.out (natsV .u8 l') HMIN.out ?pos HFIT.out (natsV_one _ _) ?_)
          case pos => first | exact HSRC.out | exact fun h => ⟨rfl, HSRC.out h⟩
          intro w2 h1 h2
          rw [HSP.out] at h1
          go_wp2_with fail
          go_end0
          exact ⟨rfl, by rw [HN.out]; exact HFIN.out w2 h1, grown_trans HGR.out h2⟩

    · have hstart : TakeRel g k n' s (t ++ l) w (.slice (some ⟨b, off + mm, none⟩) (m - mm) (c - mm)) wc :=
        ⟨_, _, _, l.drop mm, _, r2, rfl, bin_drop x4 (by omega) (by omega) (some ⟨b, off + mm, none⟩) (.inr rfl), by
          intro x hx; injection hx with hx; subst hx; exact fun _ => HAB.out ⟨b, off, none⟩ rfl (by omega), rfl, HMX0.out, HR2L.out, HR2B.out, x1, HSTEP.out, x2, x3⟩
      clear x1 x2 x3 x4 HMIX ENDK WFACTS HSTEP HMX0 HR2L HR2B SET GR HB1 HSRC HSP HFIT HMIN hkc htc hfr hadd hdI htst
      have hcm : (mm : Int) ≤ (c : Int) := by omega
      have hmm2 : (mm : Int) ≤ (m : Int) := by omega
      go_wp2_with fail
      clear hcm hmm2 hcc
      go_loopw [1] (fun v wr => TakeRel g k n' s (t ++ l) w v wr) (fun v _ => lenOf v)
      case atStart => exact hstart
      case round =>
        clear hstart hm hc1 hc2 hml BLK HB HAB HTAB HS HX HR HR2 hdl h0 hcase HRT HRTH hd0 szI hmmI hlen HLB HLH HLHB HLL HMM
        obtain ⟨a', m', c', l', s', r', rfl, hb, hab, hs, hx, hr, hr2, blk, hgo, hgr, htab⟩ := hrel
        have hm := hb.1.2.1
        have hc1 := hb.2.1
        have hc2 := hb.2.2.1
        unfold maxLen at hm hc2
        have HLEN := Lib.hid hb.1.1
        by_cases hlt : sz ≤ m'
        · obtain ⟨b, off, rfl, _⟩ := hb.1.2.2.2.resolve_left (by omega)
          have HB := Lib.hid hb
          obtain ⟨a0, a1, a2, a3, a4, a5, a6, a7, hs8⟩ := list8 hs
          have hm8l := mix_length (W := wW k) (b := l'.take sz) hs
          obtain ⟨b0, b1, b2, b3, b4, b5, b6, b7, hm8⟩ := list8 hm8l
          have hdb := (Below.refl wr.heap.size wr).drew
          have hmix := mix_any k hk s' sz c' b off (l'.take sz) wr.drew hs hx (bin_head (hb.below hdb) hlt (by omega)) HSZ.out.symm (htab.below hdb)
          have HSTEP := Lib.hid (goes_hi (W := wW k) (s := s') (l := l') (by unfold wW; split <;> omega) (by rw [HSZ.out, HLEN.out]; exact hlt))
          rw [HSZ.out] at HSTEP
          have HMX := Lib.hid (mix_lt (W := wW k) s' (l'.take sz))
          have HMX0 := Lib.hid (show ∀ x ∈ [b0, b1, b2, b3, b4, b5, b6, b7], x < 2 ^ wW k from by rw [← hm8]; exact mix_lt (W := wW k) _ _)
          rw [hm8] at hmix HSTEP HMX
          subst hs8
          have HMIX := Lib.hid (show Calls Tryd.prog 53 #[.int .u8 (k : Nat), .agg #[.int .u64 (a0 : Nat), .int .u64 (a1 : Nat), .int .u64 (a2 : Nat), .int .u64 (a3 : Nat), .int .u64 (a4 : Nat), .int .u64 (a5 : Nat), .int .u64 (a6 : Nat), .int .u64 (a7 : Nat)], .slice (some ⟨b, off, none⟩) sz c'] wr.drew
            (fun e w' => e = .returned (.agg #[.int .u64 (b0 : Nat), .int .u64 (b1 : Nat), .int .u64 (b2 : Nat), .int .u64 (b3 : Nat), .int .u64 (b4 : Nat), .int .u64 (b5 : Nat), .int .u64 (b6 : Nat), .int .u64 (b7 : Nat)]) ∧ Below wr.heap.size wr w') from hmix.mono fun e w' h => ⟨h.1, ⟨h.2.os, h.2.tape, h.2.output, h.2.size, h.2.block⟩⟩)
          have ENDK := Lib.hid (fun (A : Option Addr) (hA : A = some ⟨b, off, none⟩ ∧ m' - sz = 0 ∨ A = some ⟨b, off + sz, none⟩) (w1 : World) (hb1 : Below wr.heap.size wr w1) =>
            takeEnd (b := b) (off := off) (t' := [b0, b1, b2, b3, b4, b5, b6, b7]) blk hb HMX0.out hr hr2 hlt (by omega) (hab _ rfl (by omega)) hgr htab hg (rfl) hA hb1)
          have hkc := hash_kind blk
          have WFACTS := Lib.hid (fun (w1 : World) (hb1 : Below wr.heap.size wr w1) => wordFacts (blk.below' hb1))
          obtain ⟨p0, p1, p2, p3, p4, p5, p6, p7, f0, f1, f2, f3, f4, f5, f6, f7⟩ := wordFacts blk
          have hcI : (sz : Int) ≤ (c' : Int) := by omega
          have hs0I : (0 : Int) ≤ (sz : Int) := by omega
          have BLK := Lib.hid blk
          have HGO := Lib.hid hgo
          have HGR := Lib.hid hgr
          have HX := Lib.hid hx
          clear blk hgo hgr htab hs hdb hm8l hm8 hmix hx
          go_wp2_with fail
          go_region_with (go_at_call 53; refine HMIX.out.mono ?_; rintro e w1 ⟨rfl, hb1⟩; obtain ⟨p0, p1, p2, p3, p4, p5, p6, p7, f0, f1, f2, f3, f4, f5, f6, f7⟩ := WFACTS.out w1 hb1)
          all_goals
            clear p0 p1 p2 p3 p4 p5 p6 p7 f0 f1 f2 f3 f4 f5 f6 f7
            go_wp2_with fail
            go_roundw
            case rel =>
              obtain ⟨z1, z2, z3, z4, z5⟩ := ENDK.out (if c' = sz then some ⟨b, off, none⟩ else some ⟨b, off + sz, none⟩) (by split; exact .inl ⟨rfl, by omega⟩; exact .inr rfl) _ hb1
              exact ⟨_, _, _, _, _, r', rfl, z3, z4, rfl, HMX0.out, hr, hr2, z1, HSTEP.out.symm.trans HGO.out, z2, z5⟩
            case measure => simp [lenOf]; omega
        · have hsrc := src_cells hb m' (Nat.le_refl _)
          rw [List.take_of_length_le (by rw [HLEN.out]; omega)] at hsrc
          have HSRC := Lib.hid hsrc
          have hfin := fun (w2 : World) (h : Blk w2 g 72 (hashV k ((n + m) % 2 ^ 64) s' (splice r' 0 l'))) => takeFin (L := l) (t := t) (n := n) (m := m) hk hs hx hg HT0.out HL0.out hgo (by rw [HSZ.out, HLEN.out]; omega) hb.1.2.2.1 hr hr2 h
          rw [HN.out] at hfin
          have HFIN := Lib.hid hfin
          have HSP := Lib.hid (hash_splice k n' s' r' l' 0 hs)
          have hfit : 10 + (natsV .u8 l').length ≤ (hashV k n' s' r').length := by simp [hashV, natsV_length, hs, hr, HLEN.out]; omega
          have HFIT := Lib.hid hfit
          have hmin : (natsV .u8 l').length = Nat.min m' 128 := by rw [natsV_length, HLEN.out]; exact (Nat.min_eq_left (by omega)).symm
          have HMIN := Lib.hid hmin
          have BLK := Lib.hid blk
          have HGR := Lib.hid hgr
          clear hb hsrc hfin hfit hmin blk hgr htab hgo hs hx hr hr2
          go_wp2_with (refine wpList_copy_blk rfl (.tmp 84) (.tmp 85) 22 22 rfl 5 Tryd.underlying22 info5s (some ⟨g, 10, none⟩) a' 128 128 m' c' rfl rfl g 10 (hashV k n' s' r') 72 BLK.out (natsV .u8 l') HMIN.out ?pos HFIT.out (natsV_one _ _) ?_)
          case pos => first | exact HSRC.out | exact fun h => ⟨rfl, HSRC.out h⟩
          intro w2 h1 h2
          rw [HSP.out] at h1
          go_wp2_with fail
          go_end0
          exact ⟨rfl, by rw [HN.out]; exact HFIN.out w2 h1, grown_trans HGR.out h2⟩

theorem take_any (g k n : Nat) (s t l : List Nat) (a : Option Addr) (m c : Nat) (w : World) (h : HashAt w g k n s t) (hb : BIn w a m c l) (hab : ∀ b, a = some b → 0 < m → b.block ≠ g) (htab : Tabs w) :
    Calls Tryd.prog 45 #[.pointer (some ⟨g, 0, none⟩), .slice a m c] w (TakeIs g k (n + m) s (t ++ l) w) := by
  by_cases h0 : n % (2 * wW k) = 0
  · exact take_0 g k n s t l a m c w h hb hab h0 htab
  · by_cases h1 : n % (2 * wW k) + m < 2 * wW k
    · exact take_1 g k n s t l a m c w h hb hab (by omega) h1 htab
    · exact take_2 g k n s t l a m c w h hb hab (by omega) (by omega) htab
end Go.Proofs.YtnikhnpigopihaaDoor
