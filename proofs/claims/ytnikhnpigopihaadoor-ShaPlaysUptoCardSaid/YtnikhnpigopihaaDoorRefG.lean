/- The document's way through all whole blocks answers the plain one. Condition: eight words within their bits. -/
import Derived.Test.YtnikhnpigopihaaDoorRefBlk32
import Derived.Test.YtnikhnpigopihaaDoorRefBlk64
import Derived.Test.YtnikhnpigopihaaDoorOwn
import Derived.StillTailTactics
namespace Go.Proofs.YtnikhnpigopihaaDoor
open Go.RowKit
set_option linter.unusedVariables false
theorem refBlock_any (k : Nat) (hk : IsKind k) (s : List Nat) (n c : Nat) (b off : Nat) (l : List Nat) (w : World) (hs : s.length = 8) (hsb : ∀ x ∈ s, x < 2 ^ wW k) (hb : BIn w (some ⟨b, off, none⟩) n c l) (hn : n = 2 * wW k) :
    Calls Tryd.prog 54 #[.int .i64 (k : Nat), .agg (natsV .u64 s).toArray, .slice (some ⟨b, off, none⟩) n c] w (WordsIs (mix (wW k) s l) w) := by
  subst hn
  rcases hk with rfl | hk
  · exact block_32 1 rfl s c b off l w hs hsb hb
  · have e : wW k = 64 := by unfold wW; rw [if_neg (by omega)]
    rw [e] at hsb hb ⊢
    exact block_64 k hk s c b off l w hs hsb hb
/-- what the way through all whole blocks answers -/
def GoesIs (W : Nat) (s L : List Nat) (w : World) (e : Ending) (w' : World) : Prop := ∃ A c, e = .returned (.tuple #[.agg (natsV .u64 (goes W s L).1).toArray, .slice A (goes W s L).2.length c]) ∧ BIn w' A (goes W s L).2.length c (goes W s L).2 ∧ Below w.heap.size w w'
theorem eightFacts {w : World} {g t a0 a1 a2 a3 a4 a5 a6 a7 : Nat} (h : Blk w g t (natsV .u64 [a0, a1, a2, a3, a4, a5, a6, a7])) :
    w.cell? ⟨g, 0, none⟩ = some (.int .u64 (a0 : Nat)) ∧ w.cell? ⟨g, 1, none⟩ = some (.int .u64 (a1 : Nat)) ∧ w.cell? ⟨g, 2, none⟩ = some (.int .u64 (a2 : Nat)) ∧ w.cell? ⟨g, 3, none⟩ = some (.int .u64 (a3 : Nat)) ∧
    w.cell? ⟨g, 4, none⟩ = some (.int .u64 (a4 : Nat)) ∧ w.cell? ⟨g, 5, none⟩ = some (.int .u64 (a5 : Nat)) ∧ w.cell? ⟨g, 6, none⟩ = some (.int .u64 (a6 : Nat)) ∧ w.cell? ⟨g, 7, none⟩ = some (.int .u64 (a7 : Nat)) ∧
    w.frozen? ⟨g, 0, none⟩ = false ∧ w.frozen? ⟨g, 1, none⟩ = false ∧ w.frozen? ⟨g, 2, none⟩ = false ∧ w.frozen? ⟨g, 3, none⟩ = false ∧ w.frozen? ⟨g, 4, none⟩ = false ∧ w.frozen? ⟨g, 5, none⟩ = false ∧ w.frozen? ⟨g, 6, none⟩ = false ∧ w.frozen? ⟨g, 7, none⟩ = false :=
  ⟨by rw [h.cell]; rfl, by rw [h.cell]; rfl, by rw [h.cell]; rfl, by rw [h.cell]; rfl, by rw [h.cell]; rfl, by rw [h.cell]; rfl, by rw [h.cell]; rfl, by rw [h.cell]; rfl, h.free _, h.free _, h.free _, h.free _, h.free _, h.free _, h.free _, h.free _⟩
theorem eightSet {w : World} {g t a0 a1 a2 a3 a4 a5 a6 a7 b0 b1 b2 b3 b4 b5 b6 b7 : Nat} (h : Blk w g t (natsV .u64 [a0, a1, a2, a3, a4, a5, a6, a7])) : Blk (w.setCells g 0 (natsV .u64 [b0, b1, b2, b3, b4, b5, b6, b7])) g t (natsV .u64 [b0, b1, b2, b3, b4, b5, b6, b7]) :=
  setCells_blk g t _ 0 w _ h
theorem results_cell_tmp {P : Program} {fn : Func} {p q : Tmp} {ty : TypeId} (h : fn.results = #[.cell p ty, .tmp q]) (tmps : Array Value) (w : World) (g : Nat) (t : TypeId) (cs : Array Value) (fr : Nat × Nat) (d : TypeDesc) (v : Value)
    (hp : tmps.getD p undef = .pointer (some ⟨g, 0, none⟩)) (hv : tmps.getD q undef = v) (hg : w.heap[g]? = some (.cells cs t fr))
    (hu : P.underlying ty = some d) (hd : (match d with | .struct _ | .array _ _ => true | _ => false) = true) (hi : (P.info? ty).map (·.size) = some cs.size) :
    (results fn tmps).run P w = .ok (.tuple #[.agg cs, v]) w := by
  have hp' : tmps[p]?.getD undef = .pointer (some ⟨g, 0, none⟩) := by simpa using hp
  have hv' : tmps[q]?.getD undef = v := by simpa using hv
  simp [results, h, hp', hv', asAddr, run_loadVar_row w g t ty cs fr d hg hu hd hi]
theorem below_setCells {B g : Nat} {w0 : World} (hg : B ≤ g) : ∀ (vs : List Value) (o : Nat) (w : World), Below B w0 w → Below B w0 (w.setCells g o vs)
  | [], _, _, h => h
  | v :: r, o, w, h => below_setCells hg r (o + 1) _ (h.setCell (p := ⟨g, o, none⟩) hg v)
theorem blk_setCells {g g2 t2 : Nat} {cs : List Value} (hg : g2 ≠ g) : ∀ (vs : List Value) (o : Nat) (w : World), Blk w g2 t2 cs → Blk (w.setCells g o vs) g2 t2 cs
  | [], _, _, h => h
  | v :: r, o, w, h => blk_setCells hg r (o + 1) _ (h.other ⟨g, o, none⟩ v hg)
set_option maxRecDepth 100000 in
set_option maxHeartbeats 3200000 in
theorem goes_any (k : Nat) (hk : IsKind k) (s : List Nat) (A : Option Addr) (n c : Nat) (L : List Nat) (w : World) (hs : s.length = 8) (hsb : ∀ x ∈ s, x < 2 ^ wW k) (hb : BIn w A n c L) :
    Calls Tryd.prog 48 #[.int .i64 (k : Nat), .agg (natsV .u64 s).toArray, .slice A n c] w (GoesIs (wW k) s L w) := by
  have HKI := Lib.hid (show ∀ w, Calls Tryd.prog 32 #[.int .i64 (k : Nat)] w fun e w' => e = .returned (.tuple #[.int .u64 (wW k : Nat), .int .i64 (16 * wB k : Nat), .int .i64 (rounds (wW k) : Nat), .int .i64 (dgB k : Nat)]) ∧ w = w' from fun w => Kind_any k hk w)
  have hwb : 16 * wB k = 2 * wW k := by unfold wW wB; split <;> rfl
  have hw0 : 0 < wW k ∧ wW k ≤ 64 := by unfold wW; split <;> omega
  rw [hwb] at HKI
  clear hwb
  have hc1 := hb.2.1
  have hc2 := hb.2.2.1
  have hn := hb.1.2.1
  unfold maxLen at hc2 hn
  have HB := Lib.hid hb
  have HLN := Lib.hid hb.1.1
  have HK := Lib.hid hk
  have B1 := Lib.hid ((Blk.new w 66 (natsV .u64 s)).alloc (.cells (natsV .u64 (zeros 8)).toArray 66))
  have B2 := Lib.hid (Blk.new2 w (.cells (natsV .u64 s).toArray 66) 66 (natsV .u64 (zeros 8)))
  have BEL := Lib.hid (((Below.refl w.heap.size w).alloc (Nat.le_refl _) (.cells (natsV .u64 s).toArray 66)).alloc (by simp) (.cells (natsV .u64 (zeros 8)).toArray 66))
  have HS := Lib.hid hs
  have HSB := Lib.hid hsb
  clear hb hk hs hsb
  obtain ⟨W, hW⟩ : ∃ W, W = wW k := ⟨_, rfl⟩
  rw [← hW] at HKI hw0 HSB ⊢
  have HW := Lib.hid hW
  clear hW
  generalize rounds W = rr at *
  generalize dgB k = dd at *
  have hsz : 0 < 2 * W ∧ 2 * W ≤ 128 := by omega
  obtain ⟨sz, hszz⟩ : ∃ sz, sz = 2 * W := ⟨_, rfl⟩
  rw [← hszz] at HKI hsz
  have HSZ := Lib.hid hszz
  clear hszz
  go_enter Tryd.func48, Tryd.ntmps48
  go_wp2_with fail
  refine (HKI.out _).mono ?_
  rintro e w' ⟨rfl, rfl⟩
  clear HKI
  go_wp2_with fail
  go_loopw [12] (fun i wr => ∃ (t : Nat) (s' : List Nat), t ≤ n ∧ i = .int .i64 t ∧ s'.length = 8 ∧ (∀ x ∈ s', x < 2 ^ W) ∧ goes W s' (L.drop t) = goes W s L ∧ Blk wr w.heap.size 66 (natsV .u64 s') ∧ Blk wr (w.heap.size + 1) 66 (natsV .u64 (zeros 8)) ∧ Below w.heap.size w wr) (fun i _ => n - (intOf i).toNat)
  case atStart => exact ⟨0, s, by omega, rfl, HS.out, HSB.out, rfl, B1.out, B2.out, BEL.out⟩
  case round =>
    clear B1 B2 BEL HS HSB
    obtain ⟨t, s', ht, rfl, hs, hsb, hgo, k1, k2, hbel⟩ := hrel
    have HGO := Lib.hid hgo
    have K2 := Lib.hid k2
    have HSB := Lib.hid hsb
    obtain ⟨a0, a1, a2, a3, a4, a5, a6, a7, hs8⟩ := list8 hs
    subst hs8
    have K1 := Lib.hid k1
    have HS := Lib.hid hs
    clear hgo k1 k2 hs hsb
    by_cases hlt : t + sz ≤ n
    · have hcmp : (sz : Int) ≤ (n : Int) - (t : Int) := by omega
      obtain ⟨b, off, rfl, _⟩ := HB.out.1.2.2.2.resolve_left (by omega)
      have hbw := HB.out.below hbel
      have hbd := bin_sub hbw (by omega) (show t + sz ≤ n from hlt)
      have HBK := Lib.hid (refBlock_any k HK.out [a0, a1, a2, a3, a4, a5, a6, a7] sz (c - t) b (off + t) ((L.drop t).take sz) wr.drew HS.out (by rw [← HW.out]; exact HSB.out) (hbd.below (Below.refl _ wr).drew) (by rw [HSZ.out, HW.out]))
      rw [← HW.out] at HBK
      have hm8l := mix_length (W := W) (b := (L.drop t).take sz) HS.out
      obtain ⟨b0, b1, b2, b3, b4, b5, b6, b7, hm8⟩ := list8 hm8l
      have HMX := Lib.hid (show ∀ x ∈ [b0, b1, b2, b3, b4, b5, b6, b7], x < 2 ^ W from by rw [← hm8]; exact mix_lt (W := W) _ _)
      have HSTEP := Lib.hid (goes_hi (W := W) (s := [a0, a1, a2, a3, a4, a5, a6, a7]) (l := L.drop t) hw0.1 (by rw [← HSZ.out, List.length_drop, HLN.out]; omega))
      rw [← HSZ.out, hm8, List.drop_drop] at HSTEP
      rw [hm8] at HBK
      have HMIX := Lib.hid (show Calls Tryd.prog 54 #[.int .i64 (k : Nat), .agg #[.int .u64 (a0 : Nat), .int .u64 (a1 : Nat), .int .u64 (a2 : Nat), .int .u64 (a3 : Nat), .int .u64 (a4 : Nat), .int .u64 (a5 : Nat), .int .u64 (a6 : Nat), .int .u64 (a7 : Nat)], .slice (some ⟨b, off + t, none⟩) sz (c - t)] wr.drew
        (fun e w' => e = .returned (.agg #[.int .u64 (b0 : Nat), .int .u64 (b1 : Nat), .int .u64 (b2 : Nat), .int .u64 (b3 : Nat), .int .u64 (b4 : Nat), .int .u64 (b5 : Nat), .int .u64 (b6 : Nat), .int .u64 (b7 : Nat)]) ∧ Below wr.heap.size wr w') from HBK.out.mono fun e w' h => ⟨h.1, ⟨h.2.os, h.2.tape, h.2.output, h.2.size, h.2.block⟩⟩)
      have WFACTS := Lib.hid (fun (w1 : World) (hb1 : Below wr.heap.size wr w1) => eightFacts (K1.out.below' hb1))
      obtain ⟨p0, p1, p2, p3, p4, p5, p6, p7, f0, f1, f2, f3, f4, f5, f6, f7⟩ := eightFacts K1.out
      have e1 : IntKind.i64.wrap ((t : Int) + (sz : Int)) = ((t + sz : Nat) : Int) := by rw [IntWalk.i64_in _ (by omega)]; omega
      have i1 : ((t + sz : Nat) : Int) ≤ (c : Int) := by omega
      have i2 : (t : Int) ≤ ((t + sz : Nat) : Int) := by omega
      have e3 : t + sz - t = sz := by omega
      have hl3 : sz ≤ n := by omega
      clear hbw hbd hm8l hm8 HBK
      go_wp2_with fail
      go_region_with (go_at_call 54; refine HMIX.out.mono ?_; rintro e w1 ⟨rfl, hb1⟩; obtain ⟨p0, p1, p2, p3, p4, p5, p6, p7, f0, f1, f2, f3, f4, f5, f6, f7⟩ := WFACTS.out w1 hb1)
      all_goals
        have J1 := Lib.hid (eightSet (b0 := b0) (b1 := b1) (b2 := b2) (b3 := b3) (b4 := b4) (b5 := b5) (b6 := b6) (b7 := b7) (K1.out.below' hb1))
        have J2 := Lib.hid (blk_setCells (show w.heap.size + 1 ≠ w.heap.size by omega) (natsV .u64 [b0, b1, b2, b3, b4, b5, b6, b7]) 0 w1 (K2.out.below' hb1))
        have JB := Lib.hid (below_setCells (Nat.le_refl w.heap.size) (natsV .u64 [b0, b1, b2, b3, b4, b5, b6, b7]) 0 w1 (hbel.trans (hb1.mono hbel.size)))
        clear p0 p1 p2 p3 p4 p5 p6 p7 f0 f1 f2 f3 f4 f5 f6 f7 e1 e3
        go_wp2_with fail
        go_roundw
        case rel => exact ⟨t + sz, [b0, b1, b2, b3, b4, b5, b6, b7], hlt, by go_num, rfl, HMX.out, HSTEP.out.symm.trans HGO.out, J1.out, J2.out, JB.out⟩
        case measure => simp [intOf]; omega
    · have hcmp : ¬ ((sz : Int) ≤ (n : Int) - (t : Int)) := by omega
      have HLO := Lib.hid (goes_lo (W := W) (s := [a0, a1, a2, a3, a4, a5, a6, a7]) (l := L.drop t) (by rw [← HSZ.out, List.length_drop, HLN.out]; omega))
      have HRES := Lib.hid (show goes W s L = ([a0, a1, a2, a3, a4, a5, a6, a7], L.drop t) from by rw [← HGO.out, HLO.out])
      obtain ⟨p0, p1, p2, p3, p4, p5, p6, p7, f0, f1, f2, f3, f4, f5, f6, f7⟩ := eightFacts K1.out
      have K2Z := Lib.hid (show Blk wr (w.heap.size + 1) 66 (natsV .u64 [0, 0, 0, 0, 0, 0, 0, 0]) from K2.out)
      obtain ⟨q0, q1, q2, q3, q4, q5, q6, q7, g0, g1, g2, g3, g4, g5, g6, g7⟩ := eightFacts K2Z.out
      have hti : (t : Int) ≤ (n : Int) := by omega
      by_cases hpos : t < n
      · obtain ⟨b, off, rfl, _⟩ := HB.out.1.2.2.2.resolve_left (by omega)
        have hne : ¬ c = t := by omega
        go_wp2_with fail
        go_region
        all_goals
          have J2 := Lib.hid (eightSet (b0 := a0) (b1 := a1) (b2 := a2) (b3 := a3) (b4 := a4) (b5 := a5) (b6 := a6) (b7 := a7) K2Z.out)
          have JB := Lib.hid (below_setCells (show w.heap.size ≤ w.heap.size + 1 by omega) (natsV .u64 [a0, a1, a2, a3, a4, a5, a6, a7]) 0 wr hbel)
          clear p0 p1 p2 p3 p4 p5 p6 p7 f0 f1 f2 f3 f4 f5 f6 f7 q0 q1 q2 q3 q4 q5 q6 q7 g0 g1 g2 g3 g4 g5 g6 g7
          obtain ⟨W9, hW9⟩ : ∃ W9 : World, wr.setCells (w.heap.size + 1) 0 (natsV .u64 [a0, a1, a2, a3, a4, a5, a6, a7]) = W9 := ⟨_, rfl⟩
          rw [hW9] at J2 JB
          go_wp2_with fail
          change bodyPost _ _ _ _ _ (World.drew (wr.setCells (w.heap.size + 1) 0 (natsV .u64 [a0, a1, a2, a3, a4, a5, a6, a7])))
          rw [hW9]
          refine bodyPost_ret (v := .tuple #[.agg (natsV .u64 [a0, a1, a2, a3, a4, a5, a6, a7]).toArray, .slice (some ⟨b, off + t, none⟩) (n - t) (c - t)]) ?_ rfl ?_
          · exact results_cell_tmp Tryd.results48 _ _ (w.heap.size + 1) 66 _ (0, 0) _ _ rfl rfl J2.out Tryd.underlying66 rfl (by rw [info66, size8])
          · refine ⟨_, c - t, by rw [HRES.out, List.length_drop, HLN.out], ?_, JB.drew⟩
            rw [HRES.out, List.length_drop, HLN.out]
            have h := bin_sub (HB.out.below JB.drew) (by omega) (show t + (n - t) ≤ n by omega)
            rwa [List.take_of_length_le (by rw [List.length_drop, HLN.out]; exact Nat.le_refl _)] at h
      · obtain rfl : t = n := by omega
        have HDR := Lib.hid (show L.drop t = [] from List.drop_of_length_le (by rw [HLN.out]; exact Nat.le_refl _))
        rcases A with _ | ad
        · have hc0 : c = 0 := HB.out.2.2.2.2 rfl
          subst hc0
          obtain rfl : t = 0 := by omega
          go_wp2_with fail
          go_region
          all_goals
            have J2 := Lib.hid (eightSet (b0 := a0) (b1 := a1) (b2 := a2) (b3 := a3) (b4 := a4) (b5 := a5) (b6 := a6) (b7 := a7) K2Z.out)
            have JB := Lib.hid (below_setCells (show w.heap.size ≤ w.heap.size + 1 by omega) (natsV .u64 [a0, a1, a2, a3, a4, a5, a6, a7]) 0 wr hbel)
            clear p0 p1 p2 p3 p4 p5 p6 p7 f0 f1 f2 f3 f4 f5 f6 f7 q0 q1 q2 q3 q4 q5 q6 q7 g0 g1 g2 g3 g4 g5 g6 g7
            obtain ⟨W9, hW9⟩ : ∃ W9 : World, wr.setCells (w.heap.size + 1) 0 (natsV .u64 [a0, a1, a2, a3, a4, a5, a6, a7]) = W9 := ⟨_, rfl⟩
            rw [hW9] at J2 JB
            go_wp2_with fail
            change bodyPost _ _ _ _ _ (World.drew (wr.setCells (w.heap.size + 1) 0 (natsV .u64 [a0, a1, a2, a3, a4, a5, a6, a7])))
            rw [hW9]
            refine bodyPost_ret (v := .tuple #[.agg (natsV .u64 [a0, a1, a2, a3, a4, a5, a6, a7]).toArray, .slice none 0 0]) ?_ rfl ?_
            · exact results_cell_tmp Tryd.results48 _ _ (w.heap.size + 1) 66 _ (0, 0) _ _ rfl rfl J2.out Tryd.underlying66 rfl (by rw [info66, size8])
            · refine ⟨none, 0, by rw [HRES.out, HDR.out]; rfl, ?_, JB.drew⟩
              rw [HRES.out, HDR.out]
              exact bin_empty _ _ _ (by unfold maxLen; omega) (fun _ => rfl)
        · by_cases hct : c = t
          · subst hct
            go_wp2_with fail
            go_region
            all_goals
              have J2 := Lib.hid (eightSet (b0 := a0) (b1 := a1) (b2 := a2) (b3 := a3) (b4 := a4) (b5 := a5) (b6 := a6) (b7 := a7) K2Z.out)
              have JB := Lib.hid (below_setCells (show w.heap.size ≤ w.heap.size + 1 by omega) (natsV .u64 [a0, a1, a2, a3, a4, a5, a6, a7]) 0 wr hbel)
              clear p0 p1 p2 p3 p4 p5 p6 p7 f0 f1 f2 f3 f4 f5 f6 f7 q0 q1 q2 q3 q4 q5 q6 q7 g0 g1 g2 g3 g4 g5 g6 g7
              obtain ⟨W9, hW9⟩ : ∃ W9 : World, wr.setCells (w.heap.size + 1) 0 (natsV .u64 [a0, a1, a2, a3, a4, a5, a6, a7]) = W9 := ⟨_, rfl⟩
              rw [hW9] at J2 JB
              go_wp2_with fail
              change bodyPost _ _ _ _ _ (World.drew (wr.setCells (w.heap.size + 1) 0 (natsV .u64 [a0, a1, a2, a3, a4, a5, a6, a7])))
              rw [hW9]
              refine bodyPost_ret (v := .tuple #[.agg (natsV .u64 [a0, a1, a2, a3, a4, a5, a6, a7]).toArray, .slice (some ad) 0 0]) ?_ rfl ?_
              · exact results_cell_tmp Tryd.results48 _ _ (w.heap.size + 1) 66 _ (0, 0) _ _ rfl rfl J2.out Tryd.underlying66 rfl (by rw [info66, size8])
              · refine ⟨(some ad), 0, by rw [HRES.out, HDR.out]; rfl, ?_, JB.drew⟩
                rw [HRES.out, HDR.out]
                exact bin_empty _ _ _ (by unfold maxLen; omega) (fun h => by cases h)
          · have hne : ¬ c = t := hct
            go_wp2_with fail
            go_region
            all_goals
              have J2 := Lib.hid (eightSet (b0 := a0) (b1 := a1) (b2 := a2) (b3 := a3) (b4 := a4) (b5 := a5) (b6 := a6) (b7 := a7) K2Z.out)
              have JB := Lib.hid (below_setCells (show w.heap.size ≤ w.heap.size + 1 by omega) (natsV .u64 [a0, a1, a2, a3, a4, a5, a6, a7]) 0 wr hbel)
              clear p0 p1 p2 p3 p4 p5 p6 p7 f0 f1 f2 f3 f4 f5 f6 f7 q0 q1 q2 q3 q4 q5 q6 q7 g0 g1 g2 g3 g4 g5 g6 g7
              obtain ⟨W9, hW9⟩ : ∃ W9 : World, wr.setCells (w.heap.size + 1) 0 (natsV .u64 [a0, a1, a2, a3, a4, a5, a6, a7]) = W9 := ⟨_, rfl⟩
              rw [hW9] at J2 JB
              go_wp2_with fail
              change bodyPost _ _ _ _ _ (World.drew (wr.setCells (w.heap.size + 1) 0 (natsV .u64 [a0, a1, a2, a3, a4, a5, a6, a7])))
              rw [hW9]
              refine bodyPost_ret (v := .tuple #[.agg (natsV .u64 [a0, a1, a2, a3, a4, a5, a6, a7]).toArray, .slice (some (ad.add t)) 0 (c - t)]) ?_ rfl ?_
              · exact results_cell_tmp Tryd.results48 _ _ (w.heap.size + 1) 66 _ (0, 0) _ _ rfl rfl J2.out Tryd.underlying66 rfl (by rw [info66, size8])
              · refine ⟨(some (ad.add t)), (c - t), by rw [HRES.out, HDR.out]; rfl, ?_, JB.drew⟩
                rw [HRES.out, HDR.out]
                exact bin_empty _ _ _ (by unfold maxLen; omega) (fun h => by cases h)
end Go.Proofs.YtnikhnpigopihaaDoor
