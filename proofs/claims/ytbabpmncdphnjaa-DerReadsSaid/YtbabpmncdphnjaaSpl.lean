/- An item's owner writes it over: what the law's spoil does. No condition. -/
import Derived.Test.YtbabpmncdphnjaaSpo
namespace Go.Proofs.Ytbabpmncdphnjaa
open Go.RowKit
set_option linter.unusedVariables false
set_option maxRecDepth 100000
set_option linter.unusedSimpArgs false

/-- what spoil leaves -/
def SpPost (w w' : World) (g o : Nat) (cs : List Value) (L : List Nat) : Prop :=
  ∃ cs' : List Value, Blk w' g 25 cs' ∧ cs'.length = cs.length ∧ (∀ i, i < o ∨ o + 3 ≤ i → cs'[i]? = cs[i]?) ∧ Frs w w' (fun x => x = g ∨ x ∈ L)

set_option maxRecDepth 100000 in
set_option maxHeartbeats 8000000 in
theorem spoil_step (N : Nat) (IH : ∀ (k : Tr), k.sz < N → ∀ (w : World) (g o : Nat) (cs : List Value) (base t : Nat) (b : List Nat) (v1 v2 : Value) (L : List Nat), Blk w g 25 cs → o + 3 ≤ cs.length → cs[o]? = some (.int .u8 (t : Nat)) → cs[o + 1]? = some v1 → cs[o + 2]? = some v2 →
      base ≤ w.heap.size → OwnV w base (.node t b k .nil) [.int .u8 (t : Nat), v1, v2] L → L.Nodup → g ∉ L → Calls Try.prog 12 #[.pointer (some ⟨g, o, none⟩)] w fun e w' => e = .returned (.tuple #[]) ∧ SpPost w w' g o cs L)
    (k : Tr) (hk : k.sz ≤ N) (w : World) (g o : Nat) (cs : List Value) (base t : Nat) (b : List Nat) (v1 v2 : Value) (L : List Nat) (hb : Blk w g 25 cs) (ho : o + 3 ≤ cs.length) (h0 : cs[o]? = some (.int .u8 (t : Nat))) (h1 : cs[o + 1]? = some v1) (h2 : cs[o + 2]? = some v2)
    (hbase : base ≤ w.heap.size) (hV : OwnV w base (.node t b k .nil) [.int .u8 (t : Nat), v1, v2] L) (hN : L.Nodup) (hg : g ∉ L) :
    Calls Try.prog 12 #[.pointer (some ⟨g, o, none⟩)] w fun e w' => e = .returned (.tuple #[]) ∧ SpPost w w' g o cs L := by
  obtain ⟨z1, z2, xr, ys, L1, L2, e, _, _, hb3, hk4, hO1, hO2, hVk, hVn, eL⟩ := hV
  injection e with e0 e; injection e with e1 e; injection e with e2 e
  subst e1 e2
  obtain ⟨rfl, rfl⟩ := hVn
  rw [List.append_nil] at eL
  obtain ⟨a1, c1, rfl⟩ := own_slice hO1
  obtain ⟨a2, c2, rfl⟩ := own_slice hO2
  obtain ⟨i5, hi5, hz5, hs5, hy5⟩ := info_parts info5
  obtain ⟨i25, hi25, hz25, hs25, hy25⟩ := info_parts info25z
  generalize hbn : b.length = bn at *
  generalize hkn : k.len = kn at *
  have HB := Lib.hid hb
  have HO1 := Lib.hid hO1
  have HO2 := Lib.hid hO2
  have HV := Lib.hid hVk
  have HN := Lib.hid hN
  have HG := Lib.hid hg
  have HL := Lib.hid eL
  have HH1 := Lib.hid h1
  have HH2 := Lib.hid h2
  have HK := Lib.hid hk
  have HKN := Lib.hid hkn
  have HIH := Lib.hid IH
  have HO := Lib.hid ho
  have hg1 := Lib.hid (show g ∉ ob (.slice a1 bn c1) from fun h => hg (by rw [eL]; exact List.mem_append_left _ h))
  clear hb h0 h1 h2 hO1 hO2 hVk hN hg eL hk hkn IH hbn ho e
  go_enter Try.func12, Try.ntmps12
  go_wp2_with fail
  go_loopw [2] (fun i wr => ∃ (j : Nat) (xs : List Value), i = .int .i64 (j : Nat) ∧ j ≤ bn ∧ wr.ownsRow base 5 1 (.slice a1 bn c1) bn xs ∧ Frs w wr (fun x => x ∈ ob (.slice a1 bn c1))) (fun i _ => bn - (intOf i).toNat)
  case atStart => exact ⟨0, _, rfl, Nat.zero_le _, HO1.out, Frs.refl _ _⟩
  case round =>
    obtain ⟨j, xs, rfl, hj, hown, hfr⟩ := hrel
    have HBr := Lib.hid (hfr.blk HB.out hg1.out)
    have c1g : wr.cell? ⟨g, o + 1, none⟩ = some (.slice a1 bn c1) := (HBr.out.cell (o + 1)).trans HH1.out
    have HOW := Lib.hid hown
    have HFR := Lib.hid hfr
    clear hown hfr
    by_cases hjb : j < bn
    · have hji : (j : Int) < (bn : Int) := by omega
      obtain ⟨gB, cap, e, hbB, hgB⟩ := HOW.out.form (by omega)
      injection e with e1 _ e3
      subst e1 e3
      have hxl : xs.length = bn * 1 := HOW.out.1
      have cB : wr.cell? ⟨gB, j, none⟩ = some (xs[j]'(by omega)) := by rw [HOW.out.cellAt j (by omega), List.getElem?_eq_getElem (by omega)]
      have fB := HOW.out.frozenAt j
      go_wp2_with fail
      go_roundw
      case rel =>
        have hst := HOW.out.stored j (.int .u8 99)
        refine ⟨j + 1, xs.set j (.int .u8 99), by go_num, by omega, hst.1, HFR.out.step (Frs.of_grown (F := fun x => x = gB) hst.2 (fun k hk => by injection hk with hk; exact hk.symm)) (fun x hx => .inl (by simp [ob, Value.ownBlock, hx]))⟩
      case measure => simp [intOf]; omega
    · have hji : ¬ (j : Int) < (bn : Int) := by omega
      have fG := HBr.out.free (o + 1)
      have hsz := HFR.out.2.2.2.1
      go_wp2_with (first | (at_builtin; refine wpList_append_lies _ rfl (.tmp 23) (.tmp 24) 22 rfl base 5 i5 _ 1 1 Try.underlying22 hi5 hz5 hs5 hy5 rfl (by decide) (.slice a1 bn c1) bn xs rfl (own_below HOW.out ((Below.refl _ _).alloc (Nat.le_refl _) _)) ⟨wr.heap.size, 0, none⟩ 2 2 [.int .u8 99, .int .u8 99] rfl rfl (World.news_of_block (heap_alloc_new wr _)) (by intro u hu; simp at hu; subst hu; rfl) (by decide) (by have := hb3; simp only [maxLen]; omega) (by have := hb3; omega) (by simp; omega) _ rfl ?_; intro g5 cap5 w5 hown5 hg5 hat5 hlt5; have HG5 := Lib.hid hg5; have HBx := Lib.hid ((HBr.out.alloc (.cells #[.int .u8 99, .int .u8 99] 5)).grown hg5 (fun e => hg1.out (by rw [ob, ← e]; simp))); have HFx := Lib.hid (HFR.out.step ((Frs.of_below ((Below.refl _ wr).alloc (Nat.le_refl _) (.cells #[.int .u8 99, .int .u8 99] 5)) (fun x => x ∈ ob (.slice a1 bn c1))).step (Frs.of_grown (F := fun x => x ∈ ob (.slice a1 bn c1)) hg5 (fun k hk => by rw [ob, hk]; simp)) (fun x hx => .inl hx)) (fun x hx => .inl hx)); have cgx := HBx.out.cell (o + 1); rw [HH1.out] at cgx; have fgx := HBx.out.free (o + 1)))
      have HB2 := Lib.hid (HBx.out.set (o + 1) (.slice (some ⟨g5, 0, none⟩) (bn + 2) cap5))
      have HF2 := Lib.hid ((HFx.out.mono (G := fun x => x = g ∨ x ∈ ob (.slice a1 bn c1)) (fun x hx => .inr hx)).step (Frs.of_grown (F := fun x => x = g) (grown_setCell w5 ⟨g, o + 1, none⟩ (.slice (some ⟨g5, 0, none⟩) (bn + 2) cap5)) (fun k hk => by injection hk with hk; exact hk.symm)) (fun x hx => .inl (.inl hx)))
      clear cgx fgx
      generalize hW6 : w5.setCell ⟨g, o + 1, none⟩ (.slice (some ⟨g5, 0, none⟩) (bn + 2) cap5) = W6 at *
      generalize hcs1 : cs.set (o + 1) (.slice (some ⟨g5, 0, none⟩) (bn + 2) cap5) = cs1 at *
      have HC1 := Lib.hid hcs1
      have HW6 := Lib.hid hW6
      clear hcs1 hW6
      have hN2 := HN.out
      rw [HL.out] at hN2
      have hdis := (List.nodup_append.1 hN2)
      have hdis2 := (List.nodup_append.1 hdis.2.1)
      have hnl : ∀ x ∈ ob (.slice a2 kn c2) ++ L1, ¬ (x = g ∨ x ∈ ob (.slice a1 bn c1)) := by
        intro x hx h
        rcases h with rfl | h
        · exact HG.out (by rw [HL.out]; exact List.mem_append_right _ hx)
        · exact hdis.2.2 x h x hx rfl
      have HKA := Lib.hid (show KidsAt W6 base (.slice a2 kn c2) kn 0 k L1 from ⟨_, HF2.out.own HO2.out (fun x hx => hnl x (by simp [hx])), HF2.out.ownV HV.out (fun x hx => hnl x (by simp [hx])), hdis2.2.1, fun x hx hx2 => hdis2.2.2 x hx x hx2 rfl⟩)
      have HF3 := Lib.hid (HF2.out.mono (G := fun x => x = g ∨ x ∈ L) (fun x hx => by rw [HL.out]; rcases hx with hx | hx; exact .inl hx; exact .inr (by simp [hx])))
      clear hdis hdis2 hN2 hnl
      go_loopw [3] (fun i wr => ∃ (j : Nat) (r : Tr) (Lr : List Nat), i = .int .i64 (j : Nat) ∧ j + r.len = kn ∧ r.sz ≤ N ∧ KidsAt wr base (.slice a2 kn c2) kn j r Lr ∧ (∀ x ∈ Lr, x ∈ L1) ∧ Blk wr g 25 cs1 ∧ Frs w wr (fun x => x = g ∨ x ∈ L)) (fun i _ => kn - (intOf i).toNat)
      case atStart => exact ⟨0, k, L1, rfl, by rw [HKN.out]; omega, HK.out, HKA.out, fun _ h => h, HB2.out, HF3.out⟩
      case round =>
        obtain ⟨j2, r, Lr, rfl, hjr, hrs, hka, hsub, hbl, hfr⟩ := hrel
        have c22 : cs1[o + 2]? = some (.slice a2 kn c2) := by rw [← HC1.out, List.getElem?_set_ne (by omega)]; exact HH2.out
        have k2 : wr.cell? ⟨g, o + 2, none⟩ = some (.slice a2 kn c2) := (hbl.cell (o + 2)).trans c22
        have HC22 := Lib.hid c22
        have HKA2 := Lib.hid hka
        have HSUB := Lib.hid hsub
        have HBL := Lib.hid hbl
        have HFR2 := Lib.hid hfr
        clear hka hsub hbl hfr c22
        by_cases hjk : j2 < kn
        · have hji2 : (j2 : Int) < (kn : Int) := by omega
          obtain ⟨t3, b3, k3, r3, rfl⟩ := Tr.len_pos (T := r) (by omega)
          obtain ⟨zs0, hzo, _⟩ := HKA2.out
          obtain ⟨gK, cap2, e, hbK, hgK⟩ := hzo.form (by omega)
          injection e with e1 _ e3
          subst e1 e3
          obtain ⟨cur, x1, x2, Lk, Lr', hbK2, hl3, q0, q1, q2, hVk3, hNk, hgk, hs1, hs2, hnext⟩ := HKA2.out.next
          have hgne : g ≠ gK := fun e => HG.out (by rw [HL.out, e]; simp [ob, Value.ownBlock])
          have hsz3 : k3.sz < N := by have := hrs; simp only [Tr.sz] at this; omega
          have hgL : ∀ x, (x = gK ∨ x ∈ Lk) → x ∈ L := by
            intro x hx
            rw [HL.out]
            rcases hx with rfl | hx
            · simp [ob, Value.ownBlock]
            · have := HSUB.out x (hs1 x hx); simp [this]
          have hbw : base ≤ wr.heap.size := by have := HFR2.out.2.2.2.1; omega
          have HC := Lib.hid (HIH.out k3 hsz3 wr gK (j2 * 3) cur base t3 b3 x1 x2 Lk hbK2 hl3 q0 q1 q2 hbw hVk3 hNk hgk)
          have HNX := Lib.hid hnext
          have HGL := Lib.hid hgL
          clear hzo hbK2 q0 q1 q2 hVk3 hNk hnext hs1 hgL
          go_wp2_with (first | (go_at_call 12; go_loud ((with_reducible refine (HC.out).mono ?_); rintro e w2 ⟨rfl, cs3, hb4, hl4, hsm4, hf4⟩; have HB4 := Lib.hid hb4; have HSM := Lib.hid hsm4; have HF4 := Lib.hid hf4; have HBG := Lib.hid (hf4.blk HBL.out (fun h => by rcases h with h | h; exact hgne h; exact HG.out (HGL.out g (.inr h)))); have k4 := (HBG.out.cell (o + 2)).trans HC22.out; have k5 : w2.cell? ⟨gK, j2 * 3, none⟩ = some (cs3[j2 * 3]'(by omega)) := by { rw [hb4.cell, List.getElem?_eq_getElem] }; have f5 := hb4.free (j2 * 3); clear hb4 hsm4 hf4)))
          go_roundw
          case rel =>
            have hset := HB4.out.set (j2 * 3) (.int .u8 77)
            have hfs : Frs wr (w2.setCell ⟨gK, j2 * 3, none⟩ (.int .u8 77)) (fun x => x = gK ∨ x ∈ Lk) := HF4.out.step (Frs.of_grown (F := fun x => x = gK) (grown_setCell w2 ⟨gK, j2 * 3, none⟩ (.int .u8 77)) (fun k hk => by injection hk with hk; exact hk.symm)) (fun x hx => .inl (.inl hx))
            refine ⟨j2 + 1, r3, Lr', by go_num, by simp only [Tr.len] at hjr; omega, by simp only [Tr.sz] at hrs; omega, HNX.out _ _ hset (by simp; omega) (fun i hi => by rw [List.getElem?_set_ne (by omega)]; exact HSM.out i hi) hfs, fun x hx => HSUB.out x (hs2 x hx), HBG.out.other _ _ hgne, HFR2.out.step hfs (fun x hx => .inl (.inr (HGL.out x hx)))⟩
          case measure => simp [intOf]; omega
        · have hji2 : ¬ (j2 : Int) < (kn : Int) := by omega
          obtain ⟨zs, hzo, _, _, _⟩ := HKA2.out
          have HZ := Lib.hid hzo
          have hbw : base ≤ wr.heap.size := by have := HFR2.out.2.2.2.1; omega
          have hq9 : (kn : Int) < (kn : Int) + 2 := by omega
          have hq12 : (kn : Int) + 1 < (kn : Int) + 2 := by omega
          have hqw : IntKind.i64.wrap ((kn : Int) + 1) = (kn : Int) + 1 := IntWalk.i64_in _ (by have := hk4; omega)
          have hq0 : (0 : Int) ≤ (kn : Int) + 1 := by omega
          have hqt : ((kn : Int) + 1).toNat = kn + 1 := by omega
          clear hzo
          go_wp2_with fail
          refine wp_region_L (fun w_ => Below wr.heap.size wr w_) [8, 10, 13, 16] [0, 1, 2, 4, 5, 6, 9, 10, 11, 12, 13, 14, 15, 16] (by kernel_rfl) (Below.refl _ _).drew ?_
          refine wpAnyL_pure (fun _ _ hS_ hb_ => gr_bel hS_ hb_) (i := 0) rfl (by kernel_rfl) (fun _ _ _ h => h) (pureG (by rfl) (by intro w_; go_simp; first | done | with_reducible rfl)) ?_
          try simp only [Act.put, List.getElem_toArray, List.getElem_cons_succ, List.getElem_cons_zero, List.setIfInBounds_toArray, List.set_cons_zero, List.set_cons_succ]
          refine wpAnyL_pure (fun _ _ hS_ hb_ => gr_bel hS_ hb_) (i := 1) rfl (by kernel_rfl) (fun _ _ _ h => h) (pureG (by rfl) (by intro w_; go_simp; first | done | with_reducible rfl)) ?_
          try simp only [Act.put, List.getElem_toArray, List.getElem_cons_succ, List.getElem_cons_zero, List.setIfInBounds_toArray, List.set_cons_zero, List.set_cons_succ]
          refine wpAnyL_pure (fun _ _ hS_ hb_ => gr_bel hS_ hb_) (i := 2) rfl (by kernel_rfl) (fun _ _ _ h => h) (pureG (by rfl) (by intro w_; go_simp; first | done | with_reducible rfl)) ?_
          try simp only [Act.put, List.getElem_toArray, List.getElem_cons_succ, List.getElem_cons_zero, List.setIfInBounds_toArray, List.set_cons_zero, List.set_cons_succ]
          refine wpAnyL_take (fun _ _ hS_ hb_ => gr_bel hS_ hb_) (i := 3) rfl (by kernel_rfl) (fun _ _ _ h => h) (worldG (by rfl) (by intro w_ hS_; have q := (hS_.cell (World.block_lt_of_cell? wr _ k2)).trans k2; go_simp; first | done | with_reducible rfl)) ?_
          try simp only [Act.put, List.getElem_toArray, List.getElem_cons_succ, List.getElem_cons_zero, List.setIfInBounds_toArray, List.set_cons_zero, List.set_cons_succ]
          refine wpAnyL_pure (fun _ _ hS_ hb_ => gr_bel hS_ hb_) (i := 4) rfl (by kernel_rfl) (fun _ _ _ h => h) (buildG (by rfl) _ _ rfl #[.int .u8 77, .slice none 0 0, .slice none 0 0] (L := [(0, .int .u8 77)]) (by kernel_rfl) (by simp [Act.eval])) ?_
          try simp only [Act.put, List.getElem_toArray, List.getElem_cons_succ, List.getElem_cons_zero, List.setIfInBounds_toArray, List.set_cons_zero, List.set_cons_succ]
          refine wpAnyL_pure (fun _ _ hS_ hb_ => gr_bel hS_ hb_) (i := 5) rfl (by kernel_rfl) (fun _ _ _ h => h) (buildG (by rfl) _ _ rfl #[.int .u8 77, .slice none 0 0, .slice none 0 0] (L := [(0, .int .u8 77)]) (by kernel_rfl) (by simp [Act.eval])) ?_
          try simp only [Act.put, List.getElem_toArray, List.getElem_cons_succ, List.getElem_cons_zero, List.setIfInBounds_toArray, List.set_cons_zero, List.set_cons_succ]
          refine wpAnyL_pure (fun _ _ hS_ hb_ => gr_bel hS_ hb_) (i := 6) rfl (by kernel_rfl) (fun _ _ _ h => h) (pureG (by rfl) (by intro w_; go_simp; first | done | with_reducible rfl)) ?_
          try simp only [Act.put, List.getElem_toArray, List.getElem_cons_succ, List.getElem_cons_zero, List.setIfInBounds_toArray, List.set_cons_zero, List.set_cons_succ]
          refine wpAnyL_pure (fun _ _ hS_ hb_ => gr_bel hS_ hb_) (i := 11) rfl (by kernel_rfl) (fun _ _ _ h => h) (pureG (by rfl) (by intro w_; go_simp; first | done | with_reducible rfl)) ?_
          try simp only [Act.put, List.getElem_toArray, List.getElem_cons_succ, List.getElem_cons_zero, List.setIfInBounds_toArray, List.set_cons_zero, List.set_cons_succ]
          refine wpAnyL_one (i := 7) (by kernel_rfl) (by decide) fun W9 hg9 hS9 => ?_
          refine wpOp_run (i := 7) (v := .slice (some ⟨W9.heap.size, 0, none⟩) 2 2) (W2 := W9.alloc (.cells #[.int .u8 0, .slice none 0 0, .slice none 0 0, .int .u8 0, .slice none 0 0, .slice none 0 0] 25)) rfl (by rfl) (by go_simp; first | done | rfl) ?_
          refine ⟨hS9.alloc hS9.size _, ?_⟩
          try simp only [Act.put, List.getElem_toArray, List.getElem_cons_succ, List.getElem_cons_zero, List.setIfInBounds_toArray, List.set_cons_zero, List.set_cons_succ]
          refine wpAnyL_oneD (i := 8) (by kernel_rfl) (by decide) (by decide) (by kernel_rfl) (by decide) fun W10 hg10 hS10 => ?_
          have hnews := fun j u hu => ((hg10.cell (World.block_lt_of_cell? _ _ (World.news_of_block (heap_alloc_new W9 (.cells #[.int .u8 0, .slice none 0 0, .slice none 0 0, .int .u8 0, .slice none 0 0, .slice none 0 0] 25)) j u hu))).trans (World.news_of_block (heap_alloc_new W9 (.cells #[.int .u8 0, .slice none 0 0, .slice none 0 0, .int .u8 0, .slice none 0 0, .slice none 0 0] 25)) j u hu))
          refine wpOp_append_lies (i := 8) rfl (by rfl) _ _ 23 rfl base 25 i25 _ 3 56 Try.underlying23 hi25 hz25 hs25 hy25 rfl (by decide) (.slice a2 kn c2) kn zs rfl (own_below HZ.out hS10) ⟨W9.heap.size, 0, none⟩ 2 2 [.int .u8 0, .slice none 0 0, .slice none 0 0, .int .u8 0, .slice none 0 0, .slice none 0 0] rfl rfl hnews (by intro u hu; simp at hu; rcases hu with rfl | rfl | rfl | rfl <;> rfl) (by decide) (by have := hk4; simp only [maxLen]; omega) (by have := hk4; omega) (by have := hS10.size; omega) fun g5 cap5 W11 hown5 hg5 hat5 hlt5 => ?_
          try simp only [Act.put, List.getElem_toArray, List.getElem_cons_succ, List.getElem_cons_zero, List.setIfInBounds_toArray, List.set_cons_zero, List.set_cons_succ]
          have hBL11 : Blk W11 g 25 cs1 := (HBL.out.gr hS10).grown hg5 (fun e => HG.out (by rw [HL.out]; exact List.mem_append_right _ (List.mem_append_left _ (by rw [ob, ← e]; simp))))
          obtain ⟨cur5, hcb5, hcl5, _, hcn5, _, hcb⟩ := own_cur hown5
          have hobm : ∀ x ∈ ob (.slice a2 kn c2), x ∈ L := fun x hx => by rw [HL.out]; simp [hx]
          have hne5 : g ≠ g5 := by
            rcases hat5 with hat | hat
            · intro e; exact HG.out (hobm g (by rw [ob, hat, e]; simp))
            · have h1 := HBL.out.lt; have h2 := hS10.size; omega
          have hFr11 : Frs w W11 (fun x => x = g ∨ x ∈ L) := (HFR2.out.step (Frs.of_below hS10 (fun _ => False)) (fun _ h => h.elim)).step (Frs.of_grown (F := fun x => x ∈ ob (.slice a2 kn c2)) hg5 (fun k hk => by rw [ob, hk]; simp)) (fun x hx => .inl (.inr (hobm x hx)))
          have hFin : Fin W11 g g5 cs1 (kn * 3 + 6) W11 := ⟨⟨cur5, hcb5, by omega⟩, hBL11, hne5, Frs.refl _ _⟩
          have hg5L : g5 ∈ L ∨ w.heap.size ≤ g5 := by
            rcases hat5 with hat | hat
            · exact .inl (hobm g5 (by rw [ob, hat]; simp))
            · have h1 := HFR2.out.2.2.2.1; have h2 := hS10.size; exact .inr (by omega)
          have hEND : ∀ (W : World), Fin W11 g g5 (cs1.set (o + 2) (.slice (some ⟨g5, 0, none⟩) (kn + 2) cap5)) (kn * 3 + 6) W → SpPost w W g o cs L := by
            intro W hW
            refine ⟨_, hW.2.1, by simp [← HC1.out], fun i hi => ?_, hFr11.step hW.2.2.2 (fun x hx => ?_)⟩
            · rw [List.getElem?_set_ne (by omega), ← HC1.out, List.getElem?_set_ne (by omega)]
            · rcases hx with rfl | rfl
              · exact .inl (.inl rfl)
              · exact hg5L.elim (fun h => .inl (.inr h)) .inr
          have hcl1 : o + 2 < cs1.length := by rw [← HC1.out]; have := HO.out; simp; omega
          refine wpAnyL_pure (fun _ _ hS_ hb_ => gr_bel hS_ hb_) (i := 9) rfl (by kernel_rfl) (fun _ _ _ h => h) (pureG (by rfl) (by intro w_; go_simp; first | done | with_reducible rfl)) ?_
          try simp only [Act.put, List.getElem_toArray, List.getElem_cons_succ, List.getElem_cons_zero, List.setIfInBounds_toArray, List.set_cons_zero, List.set_cons_succ]
          refine wpAnyL_pure (fun _ _ hS_ hb_ => gr_bel hS_ hb_) (i := 14) rfl (by kernel_rfl) (fun _ _ _ h => h) (pureG (by rfl) (by intro w_; go_simp; first | done | with_reducible rfl)) ?_
          try simp only [Act.put, List.getElem_toArray, List.getElem_cons_succ, List.getElem_cons_zero, List.setIfInBounds_toArray, List.set_cons_zero, List.set_cons_succ]
          refine wpAnyL_pure (fun _ _ hS_ hb_ => gr_bel hS_ hb_) (i := 15) rfl (by kernel_rfl) (fun _ _ _ h => h) (pureG (by rfl) (by intro w_; go_simp; first | done | with_reducible rfl)) ?_
          try simp only [Act.put, List.getElem_toArray, List.getElem_cons_succ, List.getElem_cons_zero, List.setIfInBounds_toArray, List.set_cons_zero, List.set_cons_succ]
          refine wpAnyL_twoF (i := 10) (j := 16) (by kernel_rfl) (by decide) (by decide) (by kernel_rfl) (by kernel_rfl) (by decide) (fun W12 hg12 => ?_) (fun W12 hg12 => ?_)
          · have hF := hFin.gr hg12
            refine hF.wpRow (i := 10) rfl (by rfl) rfl (off := kn * 3) (by simp [Act.eval]) 77 (by simp [Act.eval]) (by omega) fun W13 hF => ?_
            try simp only [Act.put, List.getElem_toArray, List.getElem_cons_succ, List.getElem_cons_zero, List.setIfInBounds_toArray, List.set_cons_zero, List.set_cons_succ]
            refine wpAnyL_pure (fun _ _ hS_ hb_ => gr_bel hS_ hb_) (i := 12) rfl (by kernel_rfl) (fun _ _ _ h => h) (pureG (by rfl) (by intro w_; go_simp; first | done | with_reducible rfl)) ?_
            try simp only [Act.put, List.getElem_toArray, List.getElem_cons_succ, List.getElem_cons_zero, List.setIfInBounds_toArray, List.set_cons_zero, List.set_cons_succ]
            refine wpAnyL_twoF (i := 13) (j := 16) (by kernel_rfl) (by decide) (by decide) (by kernel_rfl) (by kernel_rfl) (by decide) (fun W12 hg12 => ?_) (fun W12 hg12 => ?_)
            · have hF := hF.gr hg12
              refine hF.wpRow (i := 13) rfl (by rfl) rfl (off := (kn + 1) * 3) (by simp [Act.eval]) 77 (by simp [Act.eval]) (by omega) fun W14 hF => ?_
              try simp only [Act.put, List.getElem_toArray, List.getElem_cons_succ, List.getElem_cons_zero, List.setIfInBounds_toArray, List.set_cons_zero, List.set_cons_succ]
              refine wpAnyL_oneF (i := 16) (by kernel_rfl) (by decide) (by kernel_rfl) (by decide) fun W12 hg12 => ?_
              have hF := hF.gr hg12
              refine hF.wpCell (i := 16) rfl (by rfl) rfl (by rfl) (by rfl) hcl1 fun W15 hF => ?_
              try simp only [Act.put, List.getElem_toArray, List.getElem_cons_succ, List.getElem_cons_zero, List.setIfInBounds_toArray, List.set_cons_zero, List.set_cons_succ]
              refine wpAnyL_done (by kernel_rfl) ?_ _
              intro W20 hg20
              have hP := hEND _ (hF.gr hg20)
              go_wp2_with fail
              refine ⟨rfl, .tuple #[], ?_, rfl, hP⟩
              first | rfl | simp [results, Try.results12]
            · have hF := hF.gr hg12
              refine hF.wpCell (i := 16) rfl (by rfl) rfl (by rfl) (by rfl) hcl1 fun W14 hF => ?_
              try simp only [Act.put, List.getElem_toArray, List.getElem_cons_succ, List.getElem_cons_zero, List.setIfInBounds_toArray, List.set_cons_zero, List.set_cons_succ]
              refine wpAnyL_oneF (i := 13) (by kernel_rfl) (by decide) (by kernel_rfl) (by decide) fun W12 hg12 => ?_
              have hF := hF.gr hg12
              refine hF.wpRow (i := 13) rfl (by rfl) rfl (off := (kn + 1) * 3) (by simp [Act.eval]) 77 (by simp [Act.eval]) (by omega) fun W15 hF => ?_
              try simp only [Act.put, List.getElem_toArray, List.getElem_cons_succ, List.getElem_cons_zero, List.setIfInBounds_toArray, List.set_cons_zero, List.set_cons_succ]
              refine wpAnyL_done (by kernel_rfl) ?_ _
              intro W20 hg20
              have hP := hEND _ (hF.gr hg20)
              go_wp2_with fail
              refine ⟨rfl, .tuple #[], ?_, rfl, hP⟩
              first | rfl | simp [results, Try.results12]
          · have hF := hFin.gr hg12
            refine hF.wpCell (i := 16) rfl (by rfl) rfl (by rfl) (by rfl) hcl1 fun W13 hF => ?_
            try simp only [Act.put, List.getElem_toArray, List.getElem_cons_succ, List.getElem_cons_zero, List.setIfInBounds_toArray, List.set_cons_zero, List.set_cons_succ]
            refine wpAnyL_oneF (i := 10) (by kernel_rfl) (by decide) (by kernel_rfl) (by decide) fun W12 hg12 => ?_
            have hF := hF.gr hg12
            refine hF.wpRow (i := 10) rfl (by rfl) rfl (off := kn * 3) (by simp [Act.eval]) 77 (by simp [Act.eval]) (by omega) fun W14 hF => ?_
            try simp only [Act.put, List.getElem_toArray, List.getElem_cons_succ, List.getElem_cons_zero, List.setIfInBounds_toArray, List.set_cons_zero, List.set_cons_succ]
            refine wpAnyL_pure (fun _ _ hS_ hb_ => gr_bel hS_ hb_) (i := 12) rfl (by kernel_rfl) (fun _ _ _ h => h) (pureG (by rfl) (by intro w_; go_simp; first | done | with_reducible rfl)) ?_
            try simp only [Act.put, List.getElem_toArray, List.getElem_cons_succ, List.getElem_cons_zero, List.setIfInBounds_toArray, List.set_cons_zero, List.set_cons_succ]
            refine wpAnyL_oneF (i := 13) (by kernel_rfl) (by decide) (by kernel_rfl) (by decide) fun W12 hg12 => ?_
            have hF := hF.gr hg12
            refine hF.wpRow (i := 13) rfl (by rfl) rfl (off := (kn + 1) * 3) (by simp [Act.eval]) 77 (by simp [Act.eval]) (by omega) fun W15 hF => ?_
            try simp only [Act.put, List.getElem_toArray, List.getElem_cons_succ, List.getElem_cons_zero, List.setIfInBounds_toArray, List.set_cons_zero, List.set_cons_succ]
            refine wpAnyL_done (by kernel_rfl) ?_ _
            intro W20 hg20
            have hP := hEND _ (hF.gr hg20)
            go_wp2_with fail
            refine ⟨rfl, .tuple #[], ?_, rfl, hP⟩
            first | rfl | simp [results, Try.results12]
theorem spoil_any : ∀ (N : Nat) (k : Tr), k.sz < N → ∀ (w : World) (g o : Nat) (cs : List Value) (base t : Nat) (b : List Nat) (v1 v2 : Value) (L : List Nat), Blk w g 25 cs → o + 3 ≤ cs.length → cs[o]? = some (.int .u8 (t : Nat)) → cs[o + 1]? = some v1 → cs[o + 2]? = some v2 →
      base ≤ w.heap.size → OwnV w base (.node t b k .nil) [.int .u8 (t : Nat), v1, v2] L → L.Nodup → g ∉ L → Calls Try.prog 12 #[.pointer (some ⟨g, o, none⟩)] w fun e w' => e = .returned (.tuple #[]) ∧ SpPost w w' g o cs L := by
  intro N
  induction N with
  | zero => intro k h; omega
  | succ N ih => intro k hk; exact spoil_step N ih k (by omega)
end Go.Proofs.Ytbabpmncdphnjaa
