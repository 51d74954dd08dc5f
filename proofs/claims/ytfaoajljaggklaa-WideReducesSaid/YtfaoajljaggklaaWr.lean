/- WideReduces answers true for any bytes and any modulus. Condition: what a list may take. -/
import Derived.Test.YtfaoajljaggklaaRd
import Derived.Test.YtfaoajljaggklaaRz
import Derived.Test.YtfaoajljaggklaaG
import Derived.Test.YtfaoajljaggklaaMem
namespace Go.Proofs.Ytfaoajljaggklaa
open Go.RowKit
set_option linter.unusedVariables false
set_option linter.unusedSimpArgs false
theorem bin_one (w : World) (y : Nat) (hy : y < 256) : BIn (w.alloc (.cells #[.int .u8 (y : Nat)] 5)) (some ⟨w.heap.size, 0, none⟩) 1 1 [y] := by
  refine ⟨⟨rfl, by unfold maxLen; omega, by simpa using hy, .inr ⟨w.heap.size, 0, rfl, ?_⟩⟩, Nat.le_refl _, by unfold maxLen; omega, by omega, fun h => by cases h⟩
  intro i hi
  obtain rfl : i = 0 := by omega
  simp
theorem bin_pre {w : World} {b off n c f : Nat} {l : List Nat} (h : BIn w (some ⟨b, off, none⟩) n c l) (hf : f ≤ n) (hn : 0 < n) : BIn w (some ⟨b, off, none⟩) f c (l.take f) := by
  obtain ⟨⟨h1, h2, h3, h4⟩, h5, h6, h7, h8⟩ := h
  obtain ⟨b', o', he, hc⟩ := h4.resolve_left (by omega)
  injection he with he
  injection he with e1 e2
  subst e1 e2
  refine ⟨⟨by simp; omega, by omega, fun x hx => h3 x (List.mem_of_mem_take hx), .inr ⟨b, off, rfl, fun i hi => ?_⟩⟩, by omega, by omega, by omega, fun h => by cases h⟩
  rw [hc i (by omega)]
  congr 3
  simp only [List.getD_eq_getElem?_getD, List.getElem?_take]
  rw [if_pos hi]
theorem ownM_in {w : World} {base n G cap : Nat} {l : List Nat} (h : w.ownsRow base 5 1 (.slice (some ⟨G, 0, none⟩) (n + 1) cap) (n + 1) (bytesV (l ++ [77]))) (hl : ∀ x ∈ l, x < 256) (hn : l.length = n) (h47 : n + 1 ≤ 140737488355328) : BIn w (some ⟨G, 0, none⟩) n cap l := by
  obtain ⟨a', c', he, hb⟩ := own_in h (fun x hx => by rcases List.mem_append.1 hx with hx | hx; exact hl x hx; obtain rfl := List.mem_singleton.1 hx; decide) h47
  simp only [Value.slice.injEq] at he
  obtain ⟨rfl, _, rfl⟩ := he
  have := bin_pre hb.1 (show n ≤ n + 1 by omega) (by omega)
  rwa [List.take_append_of_le_length (by omega), List.take_of_length_le (by omega)] at this
theorem keep1 {w w' : World} {g : Nat} {cs : List Value} (hb : Below w.heap.size w w') (h : w.rangeAt g 0 cs) : w'.rangeAt g 0 cs := range_keepF h hb
set_option maxRecDepth 100000 in
set_option maxHeartbeats 3200000 in
theorem wr_some (A : Option Addr) (n c m : Nat) (l : List Nat) (w : World) (h : BIn w A n c l) (hn : n ≤ 140737488351232) (hm : m < 2 ^ 256) (h0 : m ≠ 0) :
    Calls Try.prog 4 #[.slice A n c, .agg (natsV .u64 (wds 4 m)).toArray] w fun e w' => e = .returned (.bool true) ∧ Below w.heap.size w w' := by
  have HRE := Lib.hid (fun A c (W : World) (h : BIn W A n c l) => Reduce_any A n c m l W h hm h0)
  have HDR := Lib.hid (fun (W : World) (h : BIn W A n c l) => dReduce_any A n c m l W h hm (Nat.pos_of_ne_zero h0))
  have Q := Lib.hid (fun w => eqZ m hm w)
  rw [decide_eq_false h0] at Q
  have LM := Lib.hid (wds_len 4 m)
  have LX := Lib.hid (wds_len 4 (be l % m))
  obtain ⟨lm, hlm⟩ : ∃ l, l = wds 4 m := ⟨_, rfl⟩
  rw [← hlm] at HRE HDR Q LM ⊢
  clear hlm hm h0
  generalize wds 4 (be l % m) = lx at *
  have HIN := Lib.hid h
  have HLN := Lib.hid h.1.1
  have HL := Lib.hid h.1.2.2.1
  have hc1 := h.2.1
  have hc2 := h.2.2.1
  unfold maxLen at hc2
  clear h
  have HAW := Lib.hid (fun w => awake_any w)
  have B1 := Lib.hid (Blk.new w 24 (natsV .u64 lm))
  have BEL := Lib.hid ((Below.refl w.heap.size w).alloc (Nat.le_refl _) (.cells (natsV .u64 lm).toArray 24))
  have HIN1 := Lib.hid (HIN.out.below BEL.out)
  go_enter Try.func4, Try.ntmps4
  go_wp2_with fail
  refine (HAW.out _).mono ?_
  rintro e w1 ⟨rfl, hb⟩
  have C1 := Lib.hid (B1.out.below' hb)
  have HB0 := Lib.hid (HIN1.out.below hb)
  have bel1 := BEL.out.trans (hb.mono BEL.out.size)
  clear B1 BEL HIN1 hb HAW HIN
  have HB := Lib.hid (HB0.out.below ((Below.refl _ _).alloc (Nat.le_refl _) (.cells #[] 5)))
  have HZ := Lib.hid (zero_row w1)
  go_wp2_with (at_builtin; refine wpList_append_bytes _ rfl _ _ rfl w1.heap.size (.slice (some ⟨w1.heap.size, 0, none⟩) 0 0) 0 [] rfl HZ.out A n c l rfl HB.out ?c1 ?c2 ?_)
  case c1 => omega
  case c2 => simp
  intro v' w2 h1 h2
  have hb1 := ((Below.refl w1.heap.size w1).alloc (Nat.le_refl _) (.cells #[] 5)).grown h2 (by simp) (fun j hj => (HZ.out.lt j hj).1)
  have hsz := hb1.size
  have HO := Lib.hid (h1.alloc (.cells #[.int .u8 (77 : Nat)] 5))
  have HN := Lib.hid (bin_one w2 77 (by decide))
  have hbel := hb1.alloc hsz (.cells #[.int .u8 (77 : Nat)] 5)
  clear h1 h2 HB HZ hb1
  go_wp2_with (at_builtin; refine wpList_append_bytes _ rfl _ _ rfl w1.heap.size v' n l rfl HO.out (some ⟨w2.heap.size, 0, none⟩) 1 1 [77] rfl HN.out ?d1 ?d2 ?_)
  case d1 => omega
  case d2 => simp; omega
  intro v2 w3 h1 h2
  have hb2 := hbel.grown h2 (by simp; omega) (fun j hj => (HO.out.lt j hj).1)
  clear HO HN hbel h2
  obtain ⟨G, cap, rfl, hcap⟩ : ∃ G cap, v2 = .slice (some ⟨G, 0, none⟩) (n + 1) cap ∧ n + 1 ≤ cap := by
    rcases h1.2 with ⟨he, h0⟩ | ⟨G, cap, cur, e1, e2, e3⟩
    · exact absurd h0 (by simp)
    · exact ⟨G, cap, e1, by omega⟩
  have HU := Lib.hid (ownM_in h1 HL.out HLN.out (by omega))
  have hcell := (own_cells h1).2 n (by omega)
  have hg : (l ++ [77]).getD n 0 = 77 := by have h := HLN.out; subst h; simp [List.getD_eq_getElem?_getD]
  have hgl : ∀ t, t < n → (l ++ [77]).getD t 0 = l.getD t 0 := by intro t ht; have h := HLN.out; simp [List.getD_eq_getElem?_getD, List.getElem?_append_left (show t < l.length by omega)]
  have HCL := Lib.hid (fun t (ht : t < n) => (by have h := (own_cells h1).2 t (by omega); rw [hgl t ht] at h; exact h : w3.cell? ⟨G, 0 + t, none⟩ = some (.int .u8 (l.getD t 0 : Nat))))
  rw [Nat.zero_add, hg] at hcell
  clear hg hgl h1
  have C3 := Lib.hid (C1.out.below' hb2)
  have HB3 := Lib.hid (HB0.out.below hb2)
  have bel3 := bel1.trans (hb2.mono bel1.size)
  clear C1 HB0 bel1 hb2 hsz
  have hk : (n : Int) ≤ (cap : Int) := by omega
  have hn0 : (0 : Int) ≤ (n : Int) := by omega
  have LXX := LX
  have HCC := Lib.hid (fun (W : World) (hb : Below w3.heap.size w3 W) => HRE.out (some ⟨G, 0, none⟩) cap W (HU.out.below hb))
  have BL0 := (Below.refl w3.heap.size w3).drew
  have i24m : (Try.prog.info? 24).map (·.size) = some (natsV .u64 lm).length := by rw [info24, natsV_length, LM.out]
  go_wp2_with fail
  refine wp_region_held_drew (S := (fun w' => w'.rangeAt w.heap.size 0 (natsV .u64 lm))) (by kernel_rfl) (blk_rangeV C3.out.drew) (fun hHeld => ?_)
  refine wpAnyH_take (i := 0) (oi := _) (v := _) rfl (by kernel_rfl) (by kernel_rfl) (by kernel_rfl) (fun _ _ _ h => h) (Or.inl ⟨by rfl, by intro w hSw; (try dsimp only at hSw); go_simp; first | done | with_reducible rfl⟩) hHeld ?_
  try simp only [Act.put, List.getElem_toArray, List.getElem_cons_succ, List.getElem_cons_zero, List.setIfInBounds_toArray, List.set_cons_zero, List.set_cons_succ]
  refine wpAnyH_take (i := 1) (oi := _) (v := _) rfl (by kernel_rfl) (by kernel_rfl) (by kernel_rfl) (fun _ _ _ h => h) (Or.inl ⟨by rfl, by intro w hSw; (try dsimp only at hSw); go_simp; first | done | with_reducible rfl⟩) hHeld ?_
  try simp only [Act.put, List.getElem_toArray, List.getElem_cons_succ, List.getElem_cons_zero, List.setIfInBounds_toArray, List.set_cons_zero, List.set_cons_succ]
  refine wpAnyH_take (i := 2) (oi := _) (v := _) rfl (by kernel_rfl) (by kernel_rfl) (by kernel_rfl) (fun _ _ _ h => h) (Or.inl ⟨by rfl, by intro w hSw; (try dsimp only at hSw); go_simp; first | done | with_reducible rfl⟩) hHeld ?_
  try simp only [Act.put, List.getElem_toArray, List.getElem_cons_succ, List.getElem_cons_zero, List.setIfInBounds_toArray, List.set_cons_zero, List.set_cons_succ]
  refine wpAnyH_take (i := 3) (oi := _) (v := _) rfl (by kernel_rfl) (by kernel_rfl) (by kernel_rfl) (fun _ _ _ h => h) (Or.inl ⟨by rfl, by intro w hSw; (try dsimp only at hSw); go_simp; first | done | with_reducible rfl⟩) hHeld ?_
  try simp only [Act.put, List.getElem_toArray, List.getElem_cons_succ, List.getElem_cons_zero, List.setIfInBounds_toArray, List.set_cons_zero, List.set_cons_succ]
  refine wpAnyH_take (i := 4) (oi := _) (v := _) rfl (by kernel_rfl) (by kernel_rfl) (by kernel_rfl) (fun _ _ _ h => h) (yieldsIf_load_mid (by rfl) _ _ rfl _ _ rfl _ _ (by intro w hSw; exact hSw) Try.underlying24 rfl i24m) hHeld ?_
  try simp only [Act.put, List.getElem_toArray, List.getElem_cons_succ, List.getElem_cons_zero, List.setIfInBounds_toArray, List.set_cons_zero, List.set_cons_succ]
  refine wpAnyH_ready (rs := [5, 9]) (by kernel_rfl) (by simp) ?_
  refine AllReadyH.cons (o := _) rfl (fun K hK => ?_) (AllReadyH.cons (o := _) rfl (fun K hK => ?_) AllReadyH.nil)
  · go_simp
    go_at_call 16
    refine (HCC.out _ (by first | exact BL0 | assumption)).mono ?_
    rintro e wx1_ ⟨rfl, hwx1_⟩
    refine hK.out _ _ (keep1 hwx1_ hHeld) (fun hHeld2 => ?_)
    clear hK K hHeld
    have hHeld := hHeld2
    clear hHeld2
    try simp only [Act.put, List.getElem_toArray, List.getElem_cons_succ, List.getElem_cons_zero, List.setIfInBounds_toArray, List.set_cons_zero, List.set_cons_succ]
    have X2_ := Lib.hid (C3.out.drew.below' hwx1_)
    have bel3_ := BL0.trans (hwx1_.mono BL0.size)
    refine wpAnyH_take (i := 6) (oi := _) (v := _) rfl (by kernel_rfl) (by kernel_rfl) (by kernel_rfl) (fun _ _ _ h => h) (Or.inl ⟨by rfl, by intro w hSw; (try dsimp only at hSw); go_simp; first | done | with_reducible rfl⟩) hHeld ?_
    try simp only [Act.put, List.getElem_toArray, List.getElem_cons_succ, List.getElem_cons_zero, List.setIfInBounds_toArray, List.set_cons_zero, List.set_cons_succ]
    refine wpAnyH_take (i := 7) (oi := _) (v := _) rfl (by kernel_rfl) (by kernel_rfl) (by kernel_rfl) (fun _ _ _ h => h) (Or.inl ⟨by rfl, by intro w hSw; (try dsimp only at hSw); go_simp; first | done | with_reducible rfl⟩) hHeld ?_
    try simp only [Act.put, List.getElem_toArray, List.getElem_cons_succ, List.getElem_cons_zero, List.setIfInBounds_toArray, List.set_cons_zero, List.set_cons_succ]
    refine wpAnyH_take (i := 8) (oi := _) (v := _) rfl (by kernel_rfl) (by kernel_rfl) (by kernel_rfl) (fun _ _ _ h => h) (Or.inl ⟨by rfl, by intro w hSw; (try dsimp only at hSw); go_simp; first | done | with_reducible rfl⟩) hHeld ?_
    try simp only [Act.put, List.getElem_toArray, List.getElem_cons_succ, List.getElem_cons_zero, List.setIfInBounds_toArray, List.set_cons_zero, List.set_cons_succ]
    refine wpAnyH_ready (rs := [9]) (by kernel_rfl) (by simp) ?_
    refine AllReadyH.cons (o := _) rfl (fun K hK => ?_) AllReadyH.nil
    have hnb9_m := X2_.out.lt
    go_simp
    refine hK.out _ _ (keep1 ((Below.refl _ _).alloc (Nat.le_refl _) _) hHeld) (fun hHeld2 => ?_)
    clear hK K hHeld
    have hHeld := hHeld2
    clear hHeld2
    try simp only [Act.put, List.getElem_toArray, List.getElem_cons_succ, List.getElem_cons_zero, List.setIfInBounds_toArray, List.set_cons_zero, List.set_cons_succ]
    obtain ⟨wy4_, hwy4_⟩ : ∃ W_ : World, W_ = (wx1_).alloc (.cells (natsV .u64 (zeros 4)).toArray 24) := ⟨_, rfl⟩
    have X5_ := Lib.hid (show Blk wy4_ w.heap.size 24 (natsV .u64 lm) from by rw [hwy4_]; exact X2_.out.alloc (.cells (natsV .u64 (zeros 4)).toArray 24))
    have Z6_ := Lib.hid (show Blk wy4_ (wx1_.heap.size) 24 (natsV .u64 (zeros 4)) from by rw [hwy4_]; exact Blk.new _ _ _)
    have bel7_ : Below w3.heap.size w3 wy4_ := by rw [hwy4_]; exact (bel3_.alloc bel3_.size (.cells (natsV .u64 (zeros 4)).toArray 24))
    have hHeld3 : wy4_.rangeAt w.heap.size 0 (natsV .u64 lm) := by rw [hwy4_]; exact hHeld
    clear hHeld
    have hHeld := hHeld3
    clear hHeld3
    refine world_as_ hwy4_ ?_
    clear hwy4_
    have hlm_ := X5_.out.lt
    refine wpAnyH_ready (rs := [10]) (by kernel_rfl) (by simp) ?_
    refine AllReadyH.cons (o := _) rfl (fun K hK => ?_) AllReadyH.nil
    rw [if_pos (by rfl)]
    refine wst24 (.tmp 7) (.tmp 24) rfl (wx1_.heap.size) rfl lx rfl LXX.out (zeros 4) Z6_.out rfl ?_
    refine hK.out _ _ (blk_rangeV (X5_.out.row (natsV .u64 lx).toArray (by first | assumption | exact Nat.ne_of_lt hlm_ | exact Nat.ne_of_lt (by assumption) | omega))) (fun hHeld2 => ?_)
    clear hK K hHeld
    have hHeld := hHeld2
    clear hHeld2
    try simp only [Act.put, List.getElem_toArray, List.getElem_cons_succ, List.getElem_cons_zero, List.setIfInBounds_toArray, List.set_cons_zero, List.set_cons_succ]
    refine wpAnyH_take (i := 11) (oi := _) (v := _) rfl (by kernel_rfl) (by kernel_rfl) (by kernel_rfl) (fun _ _ _ h => h) (Or.inl ⟨by rfl, by intro w hSw; (try dsimp only at hSw); go_simp; first | done | with_reducible rfl⟩) hHeld ?_
    try simp only [Act.put, List.getElem_toArray, List.getElem_cons_succ, List.getElem_cons_zero, List.setIfInBounds_toArray, List.set_cons_zero, List.set_cons_succ]
    refine wpAnyH_done (by kernel_rfl) ?_ _
    have F_t := Lib.hid (Z6_.out.setRow (natsV .u64 lx))
    have belF := below_setRow' bel7_ (show w3.heap.size ≤ (wx1_.heap.size) by first | exact Nat.le_refl _ | omega | exact hwx1_.size) (natsV .u64 lx).toArray
    as_aux_lemma =>
    generalize World.setRow _ _ _ = wf at *
    generalize (wx1_.heap.size) = aZ at *
    have C4 := Lib.hid (C3.out.below' belF)
    have HB4 := Lib.hid (HB3.out.below belF)
    have hcell4 := (belF.cell (World.block_lt_of_cell? w3 _ hcell)).trans hcell
    have HC4 := Lib.hid (fun t (ht : t < n) => (belF.cell (World.block_lt_of_cell? w3 _ (HCL.out t ht))).trans (HCL.out t ht))
    have bel4 := bel3.trans (belF.mono bel3.size)
    clear hcell HCL C3 HB3 bel3 belF HU HCC HRE BL0
    have i1 : (n : Int) + 1 ≤ (cap : Int) := by omega
    have i2 : (n : Int) < (n : Int) + 1 := by omega
    go_wp2_with fail
    clear hcell4
    go_loopw [9, 10] (fun st i wr => st = .bool true ∧ (∃ t : Nat, t ≤ n ∧ i = .int .i64 t) ∧ Below wf.heap.size wf wr) (fun _ i _ => n - (intOf i).toNat)
    case atStart => exact ⟨rfl, ⟨0, by omega, rfl⟩, Below.refl _ _⟩
    case round =>
      obtain ⟨rfl, ⟨t, ht, rfl⟩, hbel⟩ := hrel
      by_cases h5 : t < n
      · as_aux_lemma =>
        have hti : (t : Int) < (n : Int) := by omega
        have hti3 : (t : Int) < (n : Int) + 1 := by omega
        obtain ⟨b, off, rfl, hbc⟩ := row_byte HB4.out.1 t h5
        have ca := HC4.out t h5
        have cb := hbc t h5
        clear hbc HC4 HB4
        rw [Nat.zero_add] at ca
        have ca2 := (hbel.cell (World.block_lt_of_cell? _ _ ca)).trans ca
        have cb2 := (hbel.cell (World.block_lt_of_cell? _ _ cb)).trans cb
        clear ca cb
        generalize l.getD t 0 = x at *
        go_wp2_with fail
        refine wp_region_held_drew (S := (fun w' => w'.cell? ⟨G, t, none⟩ = some (.int .u8 (x : Nat)) ∧ w'.cell? ⟨b, off + t, none⟩ = some (.int .u8 (x : Nat)))) (by kernel_rfl) ⟨ca2, cb2⟩ (fun hHeld => ?_)
        refine wpAnyH_take (i := 0) (oi := _) (v := _) rfl (by kernel_rfl) (by kernel_rfl) (by kernel_rfl) (fun _ _ _ h => h) (Or.inl ⟨by rfl, by intro w hSw; (try dsimp only at hSw); go_simp; first | done | with_reducible rfl⟩) hHeld ?_
        try simp only [Act.put, List.getElem_toArray, List.getElem_cons_succ, List.getElem_cons_zero, List.setIfInBounds_toArray, List.set_cons_zero, List.set_cons_succ]
        refine wpAnyH_take (i := 1) (oi := _) (v := _) rfl (by kernel_rfl) (by kernel_rfl) (by kernel_rfl) (fun _ _ _ h => h) (Or.inl ⟨by rfl, by intro w hSw; (try dsimp only at hSw); go_simp; first | done | with_reducible rfl⟩) hHeld ?_
        try simp only [Act.put, List.getElem_toArray, List.getElem_cons_succ, List.getElem_cons_zero, List.setIfInBounds_toArray, List.set_cons_zero, List.set_cons_succ]
        refine wpAnyH_take (i := 2) (oi := _) (v := _) rfl (by kernel_rfl) (by kernel_rfl) (by kernel_rfl) (fun _ _ _ h => h) (Or.inl ⟨by rfl, by intro w hSw; (try dsimp only at hSw); go_simp; first | done | with_reducible rfl⟩) hHeld ?_
        try simp only [Act.put, List.getElem_toArray, List.getElem_cons_succ, List.getElem_cons_zero, List.setIfInBounds_toArray, List.set_cons_zero, List.set_cons_succ]
        refine wpAnyH_take (i := 3) (oi := _) (v := _) rfl (by kernel_rfl) (by kernel_rfl) (by kernel_rfl) (fun _ _ _ h => h) (Or.inl ⟨by rfl, by intro w hSw; (try dsimp only at hSw); go_simp; first | done | with_reducible rfl⟩) hHeld ?_
        try simp only [Act.put, List.getElem_toArray, List.getElem_cons_succ, List.getElem_cons_zero, List.setIfInBounds_toArray, List.set_cons_zero, List.set_cons_succ]
        refine wpAnyH_take (i := 4) (oi := _) (v := _) rfl (by kernel_rfl) (by kernel_rfl) (by kernel_rfl) (fun _ _ _ h => h) (Or.inl ⟨by rfl, by intro w hSw; (try dsimp only at hSw); go_simp; first | done | with_reducible rfl⟩) hHeld ?_
        try simp only [Act.put, List.getElem_toArray, List.getElem_cons_succ, List.getElem_cons_zero, List.setIfInBounds_toArray, List.set_cons_zero, List.set_cons_succ]
        refine wpAnyH_take (i := 5) (oi := _) (v := _) rfl (by kernel_rfl) (by kernel_rfl) (by kernel_rfl) (fun _ _ _ h => h) (Or.inl ⟨by rfl, by intro w hSw; (try dsimp only at hSw); go_simp; first | done | with_reducible rfl⟩) hHeld ?_
        try simp only [Act.put, List.getElem_toArray, List.getElem_cons_succ, List.getElem_cons_zero, List.setIfInBounds_toArray, List.set_cons_zero, List.set_cons_succ]
        refine wpAnyH_take (i := 6) (oi := _) (v := _) rfl (by kernel_rfl) (by kernel_rfl) (by kernel_rfl) (fun _ _ _ h => h) (Or.inl ⟨by rfl, by intro w hSw; (try dsimp only at hSw); go_simp; first | done | with_reducible rfl⟩) hHeld ?_
        try simp only [Act.put, List.getElem_toArray, List.getElem_cons_succ, List.getElem_cons_zero, List.setIfInBounds_toArray, List.set_cons_zero, List.set_cons_succ]
        refine wpAnyH_take (i := 7) (oi := _) (v := _) rfl (by kernel_rfl) (by kernel_rfl) (by kernel_rfl) (fun _ _ _ h => h) (Or.inl ⟨by rfl, by intro w hSw; (try dsimp only at hSw); go_simp; first | done | with_reducible rfl⟩) hHeld ?_
        try simp only [Act.put, List.getElem_toArray, List.getElem_cons_succ, List.getElem_cons_zero, List.setIfInBounds_toArray, List.set_cons_zero, List.set_cons_succ]
        refine wpAnyH_take (i := 8) (oi := _) (v := _) rfl (by kernel_rfl) (by kernel_rfl) (by kernel_rfl) (fun _ _ _ h => h) (Or.inl ⟨by rfl, by intro w hSw; (try dsimp only at hSw); go_simp; first | done | with_reducible rfl⟩) hHeld ?_
        try simp only [Act.put, List.getElem_toArray, List.getElem_cons_succ, List.getElem_cons_zero, List.setIfInBounds_toArray, List.set_cons_zero, List.set_cons_succ]
        refine wpAnyH_take (i := 9) (oi := _) (v := _) rfl (by kernel_rfl) (by kernel_rfl) (by kernel_rfl) (fun _ _ _ h => h) (Or.inl ⟨by rfl, by intro w hSw; (try dsimp only at hSw); go_simp; first | done | with_reducible rfl⟩) hHeld ?_
        try simp only [Act.put, List.getElem_toArray, List.getElem_cons_succ, List.getElem_cons_zero, List.setIfInBounds_toArray, List.set_cons_zero, List.set_cons_succ]
        refine wpAnyH_take (i := 10) (oi := _) (v := _) rfl (by kernel_rfl) (by kernel_rfl) (by kernel_rfl) (fun _ _ _ h => h) (Or.inl ⟨by rfl, by intro w hSw; (try dsimp only at hSw); go_simp; first | done | with_reducible rfl⟩) hHeld ?_
        try simp only [Act.put, List.getElem_toArray, List.getElem_cons_succ, List.getElem_cons_zero, List.setIfInBounds_toArray, List.set_cons_zero, List.set_cons_succ]
        refine wpAnyH_take (i := 11) (oi := _) (v := _) rfl (by kernel_rfl) (by kernel_rfl) (by kernel_rfl) (fun _ _ _ h => h) (Or.inl ⟨by rfl, by intro w hSw; (try dsimp only at hSw); go_simp; first | done | with_reducible rfl⟩) hHeld ?_
        try simp only [Act.put, List.getElem_toArray, List.getElem_cons_succ, List.getElem_cons_zero, List.setIfInBounds_toArray, List.set_cons_zero, List.set_cons_succ]
        refine wpAnyH_take (i := 12) (oi := _) (v := _) rfl (by kernel_rfl) (by kernel_rfl) (by kernel_rfl) (fun _ _ _ h => h) (Or.inl ⟨by rfl, by intro w hSw; (try dsimp only at hSw); go_simp; first | done | with_reducible rfl⟩) hHeld ?_
        try simp only [Act.put, List.getElem_toArray, List.getElem_cons_succ, List.getElem_cons_zero, List.setIfInBounds_toArray, List.set_cons_zero, List.set_cons_succ]
        refine wpAnyH_done (by kernel_rfl) ?_ _
        go_wp2_with fail
        go_roundw
        case rel => exact ⟨rfl, ⟨t + 1, by omega, by go_num⟩, hbel.drew⟩
        case measure => simp [intOf] <;> omega
      · as_aux_lemma =>
        obtain rfl : t = n := by omega
        have hti : ¬ ((t : Int) < (t : Int)) := by omega
        have C5 := Lib.hid (C4.out.below' hbel)
        have F5 := Lib.hid (F_t.out.below' hbel)
        have HB5 := Lib.hid (HB4.out.below hbel)
        have bel5 := bel4.trans (hbel.mono bel4.size)
        clear C4 F_t HB4 HC4 bel4 hbel
        have q := Q.out
        go_wp2_with (refine ld24 rfl (.tmp 3) rfl w.heap.size rfl lm C5.out LM.out ?_)
        clear q Q
        have i24x : (Try.prog.info? 24).map (·.size) = some (natsV .u64 lx).length := by rw [info24, natsV_length, LX.out]
        refine wp_region_held_drew (S := (fun w' => w'.rangeAt aZ 0 (natsV .u64 lx) ∧ w'.rangeAt w.heap.size 0 (natsV .u64 lm))) (by kernel_rfl) ⟨blk_rangeV F5.out.drew, blk_rangeV C5.out.drew⟩ (fun hHeld => ?_)
        refine wpAnyH_take (i := 0) (oi := _) (v := _) rfl (by kernel_rfl) (by kernel_rfl) (by kernel_rfl) (fun _ _ _ h => h) (Or.inl ⟨by rfl, by intro w hSw; (try dsimp only at hSw); go_simp; first | done | with_reducible rfl⟩) hHeld ?_
        try simp only [Act.put, List.getElem_toArray, List.getElem_cons_succ, List.getElem_cons_zero, List.setIfInBounds_toArray, List.set_cons_zero, List.set_cons_succ]
        refine wpAnyH_take (i := 1) (oi := _) (v := _) rfl (by kernel_rfl) (by kernel_rfl) (by kernel_rfl) (fun _ _ _ h => h) (Or.inl ⟨by rfl, by intro w hSw; (try dsimp only at hSw); go_simp; first | done | with_reducible rfl⟩) hHeld ?_
        try simp only [Act.put, List.getElem_toArray, List.getElem_cons_succ, List.getElem_cons_zero, List.setIfInBounds_toArray, List.set_cons_zero, List.set_cons_succ]
        refine wpAnyH_take (i := 2) (oi := _) (v := _) rfl (by kernel_rfl) (by kernel_rfl) (by kernel_rfl) (fun _ _ _ h => h) (Or.inl ⟨by rfl, by intro w hSw; (try dsimp only at hSw); go_simp; first | done | with_reducible rfl⟩) hHeld ?_
        try simp only [Act.put, List.getElem_toArray, List.getElem_cons_succ, List.getElem_cons_zero, List.setIfInBounds_toArray, List.set_cons_zero, List.set_cons_succ]
        refine wpAnyH_take (i := 3) (oi := _) (v := _) rfl (by kernel_rfl) (by kernel_rfl) (by kernel_rfl) (fun _ _ _ h => h) (Or.inl ⟨by rfl, by intro w hSw; (try dsimp only at hSw); go_simp; first | done | with_reducible rfl⟩) hHeld ?_
        try simp only [Act.put, List.getElem_toArray, List.getElem_cons_succ, List.getElem_cons_zero, List.setIfInBounds_toArray, List.set_cons_zero, List.set_cons_succ]
        refine wpAnyH_take (i := 4) (oi := _) (v := _) rfl (by kernel_rfl) (by kernel_rfl) (by kernel_rfl) (fun _ _ _ h => h) (Or.inl ⟨by rfl, by intro w hSw; (try dsimp only at hSw); go_simp; first | done | with_reducible rfl⟩) hHeld ?_
        try simp only [Act.put, List.getElem_toArray, List.getElem_cons_succ, List.getElem_cons_zero, List.setIfInBounds_toArray, List.set_cons_zero, List.set_cons_succ]
        refine wpAnyH_take (i := 5) (oi := _) (v := _) rfl (by kernel_rfl) (by kernel_rfl) (by kernel_rfl) (fun _ _ _ h => h) (Or.inl ⟨by rfl, by intro w hSw; (try dsimp only at hSw); go_simp; first | done | with_reducible rfl⟩) hHeld ?_
        try simp only [Act.put, List.getElem_toArray, List.getElem_cons_succ, List.getElem_cons_zero, List.setIfInBounds_toArray, List.set_cons_zero, List.set_cons_succ]
        refine wpAnyH_take (i := 6) (oi := _) (v := _) rfl (by kernel_rfl) (by kernel_rfl) (by kernel_rfl) (fun _ _ _ h => h) (Or.inl ⟨by rfl, by intro w hSw; (try dsimp only at hSw); go_simp; first | done | with_reducible rfl⟩) hHeld ?_
        try simp only [Act.put, List.getElem_toArray, List.getElem_cons_succ, List.getElem_cons_zero, List.setIfInBounds_toArray, List.set_cons_zero, List.set_cons_succ]
        refine wpAnyH_take (i := 7) (oi := _) (v := _) rfl (by kernel_rfl) (by kernel_rfl) (by kernel_rfl) (fun _ _ _ h => h) (Or.inl ⟨by rfl, by intro w hSw; (try dsimp only at hSw); go_simp; first | done | with_reducible rfl⟩) hHeld ?_
        try simp only [Act.put, List.getElem_toArray, List.getElem_cons_succ, List.getElem_cons_zero, List.setIfInBounds_toArray, List.set_cons_zero, List.set_cons_succ]
        refine wpAnyH_take (i := 8) (oi := _) (v := _) rfl (by kernel_rfl) (by kernel_rfl) (by kernel_rfl) (fun _ _ _ h => h) (Or.inl ⟨by rfl, by intro w hSw; (try dsimp only at hSw); go_simp; first | done | with_reducible rfl⟩) hHeld ?_
        try simp only [Act.put, List.getElem_toArray, List.getElem_cons_succ, List.getElem_cons_zero, List.setIfInBounds_toArray, List.set_cons_zero, List.set_cons_succ]
        refine wpAnyH_take (i := 9) (oi := _) (v := _) rfl (by kernel_rfl) (by kernel_rfl) (by kernel_rfl) (fun _ _ _ h => h) (yieldsIf_load_mid (by rfl) _ _ rfl _ _ rfl _ _ (by intro w hSw; exact hSw.1) Try.underlying24 rfl i24x) hHeld ?_
        try simp only [Act.put, List.getElem_toArray, List.getElem_cons_succ, List.getElem_cons_zero, List.setIfInBounds_toArray, List.set_cons_zero, List.set_cons_succ]
        refine wpAnyH_take (i := 10) (oi := _) (v := _) rfl (by kernel_rfl) (by kernel_rfl) (by kernel_rfl) (fun _ _ _ h => h) (Or.inl ⟨by rfl, by intro w hSw; (try dsimp only at hSw); go_simp; first | done | with_reducible rfl⟩) hHeld ?_
        try simp only [Act.put, List.getElem_toArray, List.getElem_cons_succ, List.getElem_cons_zero, List.setIfInBounds_toArray, List.set_cons_zero, List.set_cons_succ]
        refine wpAnyH_take (i := 11) (oi := _) (v := _) rfl (by kernel_rfl) (by kernel_rfl) (by kernel_rfl) (fun _ _ _ h => h) (yieldsIf_load_mid (by rfl) _ _ rfl _ _ rfl _ _ (by intro w hSw; exact hSw.2) Try.underlying24 rfl i24m) hHeld ?_
        try simp only [Act.put, List.getElem_toArray, List.getElem_cons_succ, List.getElem_cons_zero, List.setIfInBounds_toArray, List.set_cons_zero, List.set_cons_succ]
        refine wpAnyH_ready (rs := [12]) (by kernel_rfl) (by simp) ?_
        refine AllReadyH.cons (o := _) rfl (fun K hK => ?_) AllReadyH.nil
        go_simp
        go_at_call 17
        refine (HDR.out _ (HB5.out.below ((Below.refl _ _).drew))).mono ?_
        rintro e wx95 ⟨rfl, hbx95⟩
        refine hK.out _ _ ⟨range_keepF hHeld.1 hbx95, range_keepF hHeld.2 hbx95⟩ (fun hHeld2 => ?_)
        clear hK K hHeld
        have hHeld := hHeld2
        clear hHeld2
        try simp only [Act.put, List.getElem_toArray, List.getElem_cons_succ, List.getElem_cons_zero, List.setIfInBounds_toArray, List.set_cons_zero, List.set_cons_succ]
        have q := eqS lx LX.out
        refine wpAnyH_take (i := 13) (oi := _) (v := _) rfl (by kernel_rfl) (by kernel_rfl) (by kernel_rfl) (fun _ _ _ h => h) (Or.inl ⟨by rfl, by intro w hSw; (try dsimp only at hSw); go_simp; first | done | with_reducible rfl⟩) hHeld ?_
        try simp only [Act.put, List.getElem_toArray, List.getElem_cons_succ, List.getElem_cons_zero, List.setIfInBounds_toArray, List.set_cons_zero, List.set_cons_succ]
        clear q
        refine wpAnyH_take (i := 14) (oi := _) (v := _) rfl (by kernel_rfl) (by kernel_rfl) (by kernel_rfl) (fun _ _ _ h => h) (Or.inl ⟨by rfl, by intro w hSw; (try dsimp only at hSw); go_simp; first | done | with_reducible rfl⟩) hHeld ?_
        try simp only [Act.put, List.getElem_toArray, List.getElem_cons_succ, List.getElem_cons_zero, List.setIfInBounds_toArray, List.set_cons_zero, List.set_cons_succ]
        refine wpAnyH_take (i := 15) (oi := _) (v := _) rfl (by kernel_rfl) (by kernel_rfl) (by kernel_rfl) (fun _ _ _ h => h) (Or.inl ⟨by rfl, by intro w hSw; (try dsimp only at hSw); go_simp; first | done | with_reducible rfl⟩) hHeld ?_
        try simp only [Act.put, List.getElem_toArray, List.getElem_cons_succ, List.getElem_cons_zero, List.setIfInBounds_toArray, List.set_cons_zero, List.set_cons_succ]
        refine wpAnyH_done (by kernel_rfl) ?_ _
        go_wp2_with fail
        go_ret
        exact ⟨rfl, (bel5.drew).trans (hbx95.mono bel5.drew.size)⟩
  · have hnb9_m := C3.out.drew.lt
    go_simp
    refine hK.out _ _ (keep1 ((Below.refl _ _).alloc (Nat.le_refl _) _) hHeld) (fun hHeld2 => ?_)
    clear hK K hHeld
    have hHeld := hHeld2
    clear hHeld2
    try simp only [Act.put, List.getElem_toArray, List.getElem_cons_succ, List.getElem_cons_zero, List.setIfInBounds_toArray, List.set_cons_zero, List.set_cons_succ]
    obtain ⟨wy8_, hwy8_⟩ : ∃ W_ : World, W_ = (w3.drew).alloc (.cells (natsV .u64 (zeros 4)).toArray 24) := ⟨_, rfl⟩
    have X9_ := Lib.hid (show Blk wy8_ w.heap.size 24 (natsV .u64 lm) from by rw [hwy8_]; exact C3.out.drew.alloc (.cells (natsV .u64 (zeros 4)).toArray 24))
    have Z10_ := Lib.hid (show Blk wy8_ (w3.drew.heap.size) 24 (natsV .u64 (zeros 4)) from by rw [hwy8_]; exact Blk.new _ _ _)
    have bel11_ : Below w3.heap.size w3 wy8_ := by rw [hwy8_]; exact (BL0.alloc BL0.size (.cells (natsV .u64 (zeros 4)).toArray 24))
    have hHeld3 : wy8_.rangeAt w.heap.size 0 (natsV .u64 lm) := by rw [hwy8_]; exact hHeld
    clear hHeld
    have hHeld := hHeld3
    clear hHeld3
    refine world_as_ hwy8_ ?_
    clear hwy8_
    refine wpAnyH_ready (rs := [5]) (by kernel_rfl) (by simp) ?_
    refine AllReadyH.cons (o := _) rfl (fun K hK => ?_) AllReadyH.nil
    go_simp
    go_at_call 16
    refine (HCC.out _ (by first | exact BL0 | assumption)).mono ?_
    rintro e wx12_ ⟨rfl, hwx12_⟩
    refine hK.out _ _ (keep1 hwx12_ hHeld) (fun hHeld2 => ?_)
    clear hK K hHeld
    have hHeld := hHeld2
    clear hHeld2
    try simp only [Act.put, List.getElem_toArray, List.getElem_cons_succ, List.getElem_cons_zero, List.setIfInBounds_toArray, List.set_cons_zero, List.set_cons_succ]
    have X13_ := Lib.hid (X9_.out.below' hwx12_)
    have X14_ := Lib.hid (Z10_.out.below' hwx12_)
    have bel15_ := bel11_.trans (hwx12_.mono bel11_.size)
    refine wpAnyH_take (i := 6) (oi := _) (v := _) rfl (by kernel_rfl) (by kernel_rfl) (by kernel_rfl) (fun _ _ _ h => h) (Or.inl ⟨by rfl, by intro w hSw; (try dsimp only at hSw); go_simp; first | done | with_reducible rfl⟩) hHeld ?_
    try simp only [Act.put, List.getElem_toArray, List.getElem_cons_succ, List.getElem_cons_zero, List.setIfInBounds_toArray, List.set_cons_zero, List.set_cons_succ]
    refine wpAnyH_take (i := 7) (oi := _) (v := _) rfl (by kernel_rfl) (by kernel_rfl) (by kernel_rfl) (fun _ _ _ h => h) (Or.inl ⟨by rfl, by intro w hSw; (try dsimp only at hSw); go_simp; first | done | with_reducible rfl⟩) hHeld ?_
    try simp only [Act.put, List.getElem_toArray, List.getElem_cons_succ, List.getElem_cons_zero, List.setIfInBounds_toArray, List.set_cons_zero, List.set_cons_succ]
    refine wpAnyH_take (i := 8) (oi := _) (v := _) rfl (by kernel_rfl) (by kernel_rfl) (by kernel_rfl) (fun _ _ _ h => h) (Or.inl ⟨by rfl, by intro w hSw; (try dsimp only at hSw); go_simp; first | done | with_reducible rfl⟩) hHeld ?_
    try simp only [Act.put, List.getElem_toArray, List.getElem_cons_succ, List.getElem_cons_zero, List.setIfInBounds_toArray, List.set_cons_zero, List.set_cons_succ]
    have hlm_ := X13_.out.lt
    refine wpAnyH_ready (rs := [10]) (by kernel_rfl) (by simp) ?_
    refine AllReadyH.cons (o := _) rfl (fun K hK => ?_) AllReadyH.nil
    rw [if_pos (by rfl)]
    refine wst24 (.tmp 7) (.tmp 24) rfl (w3.drew.heap.size) rfl lx rfl LXX.out (zeros 4) X14_.out rfl ?_
    refine hK.out _ _ (blk_rangeV (X13_.out.row (natsV .u64 lx).toArray (by first | assumption | exact Nat.ne_of_lt hlm_ | exact Nat.ne_of_lt (by assumption) | omega))) (fun hHeld2 => ?_)
    clear hK K hHeld
    have hHeld := hHeld2
    clear hHeld2
    try simp only [Act.put, List.getElem_toArray, List.getElem_cons_succ, List.getElem_cons_zero, List.setIfInBounds_toArray, List.set_cons_zero, List.set_cons_succ]
    refine wpAnyH_take (i := 11) (oi := _) (v := _) rfl (by kernel_rfl) (by kernel_rfl) (by kernel_rfl) (fun _ _ _ h => h) (Or.inl ⟨by rfl, by intro w hSw; (try dsimp only at hSw); go_simp; first | done | with_reducible rfl⟩) hHeld ?_
    try simp only [Act.put, List.getElem_toArray, List.getElem_cons_succ, List.getElem_cons_zero, List.setIfInBounds_toArray, List.set_cons_zero, List.set_cons_succ]
    refine wpAnyH_done (by kernel_rfl) ?_ _
    have F_t := Lib.hid (X14_.out.setRow (natsV .u64 lx))
    have belF := below_setRow' bel15_ (show w3.heap.size ≤ (w3.drew.heap.size) by first | exact Nat.le_refl _ | omega | exact BL0.size) (natsV .u64 lx).toArray
    as_aux_lemma =>
    generalize World.setRow _ _ _ = wf at *
    have F_t := Lib.hid (show Blk wf w3.heap.size 24 (natsV .u64 lx) from F_t.out)
    have C4 := Lib.hid (C3.out.below' belF)
    have HB4 := Lib.hid (HB3.out.below belF)
    have hcell4 := (belF.cell (World.block_lt_of_cell? w3 _ hcell)).trans hcell
    have HC4 := Lib.hid (fun t (ht : t < n) => (belF.cell (World.block_lt_of_cell? w3 _ (HCL.out t ht))).trans (HCL.out t ht))
    have bel4 := bel3.trans (belF.mono bel3.size)
    clear hcell HCL C3 HB3 bel3 belF HU HCC HRE BL0
    have i1 : (n : Int) + 1 ≤ (cap : Int) := by omega
    have i2 : (n : Int) < (n : Int) + 1 := by omega
    go_wp2_with fail
    clear hcell4
    go_loopw [9, 10] (fun st i wr => st = .bool true ∧ (∃ t : Nat, t ≤ n ∧ i = .int .i64 t) ∧ Below wf.heap.size wf wr) (fun _ i _ => n - (intOf i).toNat)
    case atStart => exact ⟨rfl, ⟨0, by omega, rfl⟩, Below.refl _ _⟩
    case round =>
      obtain ⟨rfl, ⟨t, ht, rfl⟩, hbel⟩ := hrel
      by_cases h5 : t < n
      · as_aux_lemma =>
        have hti : (t : Int) < (n : Int) := by omega
        have hti3 : (t : Int) < (n : Int) + 1 := by omega
        obtain ⟨b, off, rfl, hbc⟩ := row_byte HB4.out.1 t h5
        have ca := HC4.out t h5
        have cb := hbc t h5
        clear hbc HC4 HB4
        rw [Nat.zero_add] at ca
        have ca2 := (hbel.cell (World.block_lt_of_cell? _ _ ca)).trans ca
        have cb2 := (hbel.cell (World.block_lt_of_cell? _ _ cb)).trans cb
        clear ca cb
        generalize l.getD t 0 = x at *
        go_wp2_with fail
        refine wp_region_held_drew (S := (fun w' => w'.cell? ⟨G, t, none⟩ = some (.int .u8 (x : Nat)) ∧ w'.cell? ⟨b, off + t, none⟩ = some (.int .u8 (x : Nat)))) (by kernel_rfl) ⟨ca2, cb2⟩ (fun hHeld => ?_)
        refine wpAnyH_take (i := 0) (oi := _) (v := _) rfl (by kernel_rfl) (by kernel_rfl) (by kernel_rfl) (fun _ _ _ h => h) (Or.inl ⟨by rfl, by intro w hSw; (try dsimp only at hSw); go_simp; first | done | with_reducible rfl⟩) hHeld ?_
        try simp only [Act.put, List.getElem_toArray, List.getElem_cons_succ, List.getElem_cons_zero, List.setIfInBounds_toArray, List.set_cons_zero, List.set_cons_succ]
        refine wpAnyH_take (i := 1) (oi := _) (v := _) rfl (by kernel_rfl) (by kernel_rfl) (by kernel_rfl) (fun _ _ _ h => h) (Or.inl ⟨by rfl, by intro w hSw; (try dsimp only at hSw); go_simp; first | done | with_reducible rfl⟩) hHeld ?_
        try simp only [Act.put, List.getElem_toArray, List.getElem_cons_succ, List.getElem_cons_zero, List.setIfInBounds_toArray, List.set_cons_zero, List.set_cons_succ]
        refine wpAnyH_take (i := 2) (oi := _) (v := _) rfl (by kernel_rfl) (by kernel_rfl) (by kernel_rfl) (fun _ _ _ h => h) (Or.inl ⟨by rfl, by intro w hSw; (try dsimp only at hSw); go_simp; first | done | with_reducible rfl⟩) hHeld ?_
        try simp only [Act.put, List.getElem_toArray, List.getElem_cons_succ, List.getElem_cons_zero, List.setIfInBounds_toArray, List.set_cons_zero, List.set_cons_succ]
        refine wpAnyH_take (i := 3) (oi := _) (v := _) rfl (by kernel_rfl) (by kernel_rfl) (by kernel_rfl) (fun _ _ _ h => h) (Or.inl ⟨by rfl, by intro w hSw; (try dsimp only at hSw); go_simp; first | done | with_reducible rfl⟩) hHeld ?_
        try simp only [Act.put, List.getElem_toArray, List.getElem_cons_succ, List.getElem_cons_zero, List.setIfInBounds_toArray, List.set_cons_zero, List.set_cons_succ]
        refine wpAnyH_take (i := 4) (oi := _) (v := _) rfl (by kernel_rfl) (by kernel_rfl) (by kernel_rfl) (fun _ _ _ h => h) (Or.inl ⟨by rfl, by intro w hSw; (try dsimp only at hSw); go_simp; first | done | with_reducible rfl⟩) hHeld ?_
        try simp only [Act.put, List.getElem_toArray, List.getElem_cons_succ, List.getElem_cons_zero, List.setIfInBounds_toArray, List.set_cons_zero, List.set_cons_succ]
        refine wpAnyH_take (i := 5) (oi := _) (v := _) rfl (by kernel_rfl) (by kernel_rfl) (by kernel_rfl) (fun _ _ _ h => h) (Or.inl ⟨by rfl, by intro w hSw; (try dsimp only at hSw); go_simp; first | done | with_reducible rfl⟩) hHeld ?_
        try simp only [Act.put, List.getElem_toArray, List.getElem_cons_succ, List.getElem_cons_zero, List.setIfInBounds_toArray, List.set_cons_zero, List.set_cons_succ]
        refine wpAnyH_take (i := 6) (oi := _) (v := _) rfl (by kernel_rfl) (by kernel_rfl) (by kernel_rfl) (fun _ _ _ h => h) (Or.inl ⟨by rfl, by intro w hSw; (try dsimp only at hSw); go_simp; first | done | with_reducible rfl⟩) hHeld ?_
        try simp only [Act.put, List.getElem_toArray, List.getElem_cons_succ, List.getElem_cons_zero, List.setIfInBounds_toArray, List.set_cons_zero, List.set_cons_succ]
        refine wpAnyH_take (i := 7) (oi := _) (v := _) rfl (by kernel_rfl) (by kernel_rfl) (by kernel_rfl) (fun _ _ _ h => h) (Or.inl ⟨by rfl, by intro w hSw; (try dsimp only at hSw); go_simp; first | done | with_reducible rfl⟩) hHeld ?_
        try simp only [Act.put, List.getElem_toArray, List.getElem_cons_succ, List.getElem_cons_zero, List.setIfInBounds_toArray, List.set_cons_zero, List.set_cons_succ]
        refine wpAnyH_take (i := 8) (oi := _) (v := _) rfl (by kernel_rfl) (by kernel_rfl) (by kernel_rfl) (fun _ _ _ h => h) (Or.inl ⟨by rfl, by intro w hSw; (try dsimp only at hSw); go_simp; first | done | with_reducible rfl⟩) hHeld ?_
        try simp only [Act.put, List.getElem_toArray, List.getElem_cons_succ, List.getElem_cons_zero, List.setIfInBounds_toArray, List.set_cons_zero, List.set_cons_succ]
        refine wpAnyH_take (i := 9) (oi := _) (v := _) rfl (by kernel_rfl) (by kernel_rfl) (by kernel_rfl) (fun _ _ _ h => h) (Or.inl ⟨by rfl, by intro w hSw; (try dsimp only at hSw); go_simp; first | done | with_reducible rfl⟩) hHeld ?_
        try simp only [Act.put, List.getElem_toArray, List.getElem_cons_succ, List.getElem_cons_zero, List.setIfInBounds_toArray, List.set_cons_zero, List.set_cons_succ]
        refine wpAnyH_take (i := 10) (oi := _) (v := _) rfl (by kernel_rfl) (by kernel_rfl) (by kernel_rfl) (fun _ _ _ h => h) (Or.inl ⟨by rfl, by intro w hSw; (try dsimp only at hSw); go_simp; first | done | with_reducible rfl⟩) hHeld ?_
        try simp only [Act.put, List.getElem_toArray, List.getElem_cons_succ, List.getElem_cons_zero, List.setIfInBounds_toArray, List.set_cons_zero, List.set_cons_succ]
        refine wpAnyH_take (i := 11) (oi := _) (v := _) rfl (by kernel_rfl) (by kernel_rfl) (by kernel_rfl) (fun _ _ _ h => h) (Or.inl ⟨by rfl, by intro w hSw; (try dsimp only at hSw); go_simp; first | done | with_reducible rfl⟩) hHeld ?_
        try simp only [Act.put, List.getElem_toArray, List.getElem_cons_succ, List.getElem_cons_zero, List.setIfInBounds_toArray, List.set_cons_zero, List.set_cons_succ]
        refine wpAnyH_take (i := 12) (oi := _) (v := _) rfl (by kernel_rfl) (by kernel_rfl) (by kernel_rfl) (fun _ _ _ h => h) (Or.inl ⟨by rfl, by intro w hSw; (try dsimp only at hSw); go_simp; first | done | with_reducible rfl⟩) hHeld ?_
        try simp only [Act.put, List.getElem_toArray, List.getElem_cons_succ, List.getElem_cons_zero, List.setIfInBounds_toArray, List.set_cons_zero, List.set_cons_succ]
        refine wpAnyH_done (by kernel_rfl) ?_ _
        go_wp2_with fail
        go_roundw
        case rel => exact ⟨rfl, ⟨t + 1, by omega, by go_num⟩, hbel.drew⟩
        case measure => simp [intOf] <;> omega
      · as_aux_lemma =>
        obtain rfl : t = n := by omega
        have hti : ¬ ((t : Int) < (t : Int)) := by omega
        have C5 := Lib.hid (C4.out.below' hbel)
        have F5 := Lib.hid (F_t.out.below' hbel)
        have HB5 := Lib.hid (HB4.out.below hbel)
        have bel5 := bel4.trans (hbel.mono bel4.size)
        clear C4 F_t HB4 HC4 bel4 hbel
        have q := Q.out
        go_wp2_with (refine ld24 rfl (.tmp 3) rfl w.heap.size rfl lm C5.out LM.out ?_)
        clear q Q
        have i24x : (Try.prog.info? 24).map (·.size) = some (natsV .u64 lx).length := by rw [info24, natsV_length, LX.out]
        refine wp_region_held_drew (S := (fun w' => w'.rangeAt w3.heap.size 0 (natsV .u64 lx) ∧ w'.rangeAt w.heap.size 0 (natsV .u64 lm))) (by kernel_rfl) ⟨blk_rangeV F5.out.drew, blk_rangeV C5.out.drew⟩ (fun hHeld => ?_)
        refine wpAnyH_take (i := 0) (oi := _) (v := _) rfl (by kernel_rfl) (by kernel_rfl) (by kernel_rfl) (fun _ _ _ h => h) (Or.inl ⟨by rfl, by intro w hSw; (try dsimp only at hSw); go_simp; first | done | with_reducible rfl⟩) hHeld ?_
        try simp only [Act.put, List.getElem_toArray, List.getElem_cons_succ, List.getElem_cons_zero, List.setIfInBounds_toArray, List.set_cons_zero, List.set_cons_succ]
        refine wpAnyH_take (i := 1) (oi := _) (v := _) rfl (by kernel_rfl) (by kernel_rfl) (by kernel_rfl) (fun _ _ _ h => h) (Or.inl ⟨by rfl, by intro w hSw; (try dsimp only at hSw); go_simp; first | done | with_reducible rfl⟩) hHeld ?_
        try simp only [Act.put, List.getElem_toArray, List.getElem_cons_succ, List.getElem_cons_zero, List.setIfInBounds_toArray, List.set_cons_zero, List.set_cons_succ]
        refine wpAnyH_take (i := 2) (oi := _) (v := _) rfl (by kernel_rfl) (by kernel_rfl) (by kernel_rfl) (fun _ _ _ h => h) (Or.inl ⟨by rfl, by intro w hSw; (try dsimp only at hSw); go_simp; first | done | with_reducible rfl⟩) hHeld ?_
        try simp only [Act.put, List.getElem_toArray, List.getElem_cons_succ, List.getElem_cons_zero, List.setIfInBounds_toArray, List.set_cons_zero, List.set_cons_succ]
        refine wpAnyH_take (i := 3) (oi := _) (v := _) rfl (by kernel_rfl) (by kernel_rfl) (by kernel_rfl) (fun _ _ _ h => h) (Or.inl ⟨by rfl, by intro w hSw; (try dsimp only at hSw); go_simp; first | done | with_reducible rfl⟩) hHeld ?_
        try simp only [Act.put, List.getElem_toArray, List.getElem_cons_succ, List.getElem_cons_zero, List.setIfInBounds_toArray, List.set_cons_zero, List.set_cons_succ]
        refine wpAnyH_take (i := 4) (oi := _) (v := _) rfl (by kernel_rfl) (by kernel_rfl) (by kernel_rfl) (fun _ _ _ h => h) (Or.inl ⟨by rfl, by intro w hSw; (try dsimp only at hSw); go_simp; first | done | with_reducible rfl⟩) hHeld ?_
        try simp only [Act.put, List.getElem_toArray, List.getElem_cons_succ, List.getElem_cons_zero, List.setIfInBounds_toArray, List.set_cons_zero, List.set_cons_succ]
        refine wpAnyH_take (i := 5) (oi := _) (v := _) rfl (by kernel_rfl) (by kernel_rfl) (by kernel_rfl) (fun _ _ _ h => h) (Or.inl ⟨by rfl, by intro w hSw; (try dsimp only at hSw); go_simp; first | done | with_reducible rfl⟩) hHeld ?_
        try simp only [Act.put, List.getElem_toArray, List.getElem_cons_succ, List.getElem_cons_zero, List.setIfInBounds_toArray, List.set_cons_zero, List.set_cons_succ]
        refine wpAnyH_take (i := 6) (oi := _) (v := _) rfl (by kernel_rfl) (by kernel_rfl) (by kernel_rfl) (fun _ _ _ h => h) (Or.inl ⟨by rfl, by intro w hSw; (try dsimp only at hSw); go_simp; first | done | with_reducible rfl⟩) hHeld ?_
        try simp only [Act.put, List.getElem_toArray, List.getElem_cons_succ, List.getElem_cons_zero, List.setIfInBounds_toArray, List.set_cons_zero, List.set_cons_succ]
        refine wpAnyH_take (i := 7) (oi := _) (v := _) rfl (by kernel_rfl) (by kernel_rfl) (by kernel_rfl) (fun _ _ _ h => h) (Or.inl ⟨by rfl, by intro w hSw; (try dsimp only at hSw); go_simp; first | done | with_reducible rfl⟩) hHeld ?_
        try simp only [Act.put, List.getElem_toArray, List.getElem_cons_succ, List.getElem_cons_zero, List.setIfInBounds_toArray, List.set_cons_zero, List.set_cons_succ]
        refine wpAnyH_take (i := 8) (oi := _) (v := _) rfl (by kernel_rfl) (by kernel_rfl) (by kernel_rfl) (fun _ _ _ h => h) (Or.inl ⟨by rfl, by intro w hSw; (try dsimp only at hSw); go_simp; first | done | with_reducible rfl⟩) hHeld ?_
        try simp only [Act.put, List.getElem_toArray, List.getElem_cons_succ, List.getElem_cons_zero, List.setIfInBounds_toArray, List.set_cons_zero, List.set_cons_succ]
        refine wpAnyH_take (i := 9) (oi := _) (v := _) rfl (by kernel_rfl) (by kernel_rfl) (by kernel_rfl) (fun _ _ _ h => h) (yieldsIf_load_mid (by rfl) _ _ rfl _ _ rfl _ _ (by intro w hSw; exact hSw.1) Try.underlying24 rfl i24x) hHeld ?_
        try simp only [Act.put, List.getElem_toArray, List.getElem_cons_succ, List.getElem_cons_zero, List.setIfInBounds_toArray, List.set_cons_zero, List.set_cons_succ]
        refine wpAnyH_take (i := 10) (oi := _) (v := _) rfl (by kernel_rfl) (by kernel_rfl) (by kernel_rfl) (fun _ _ _ h => h) (Or.inl ⟨by rfl, by intro w hSw; (try dsimp only at hSw); go_simp; first | done | with_reducible rfl⟩) hHeld ?_
        try simp only [Act.put, List.getElem_toArray, List.getElem_cons_succ, List.getElem_cons_zero, List.setIfInBounds_toArray, List.set_cons_zero, List.set_cons_succ]
        refine wpAnyH_take (i := 11) (oi := _) (v := _) rfl (by kernel_rfl) (by kernel_rfl) (by kernel_rfl) (fun _ _ _ h => h) (yieldsIf_load_mid (by rfl) _ _ rfl _ _ rfl _ _ (by intro w hSw; exact hSw.2) Try.underlying24 rfl i24m) hHeld ?_
        try simp only [Act.put, List.getElem_toArray, List.getElem_cons_succ, List.getElem_cons_zero, List.setIfInBounds_toArray, List.set_cons_zero, List.set_cons_succ]
        refine wpAnyH_ready (rs := [12]) (by kernel_rfl) (by simp) ?_
        refine AllReadyH.cons (o := _) rfl (fun K hK => ?_) AllReadyH.nil
        go_simp
        go_at_call 17
        refine (HDR.out _ (HB5.out.below ((Below.refl _ _).drew))).mono ?_
        rintro e wx95 ⟨rfl, hbx95⟩
        refine hK.out _ _ ⟨range_keepF hHeld.1 hbx95, range_keepF hHeld.2 hbx95⟩ (fun hHeld2 => ?_)
        clear hK K hHeld
        have hHeld := hHeld2
        clear hHeld2
        try simp only [Act.put, List.getElem_toArray, List.getElem_cons_succ, List.getElem_cons_zero, List.setIfInBounds_toArray, List.set_cons_zero, List.set_cons_succ]
        have q := eqS lx LX.out
        refine wpAnyH_take (i := 13) (oi := _) (v := _) rfl (by kernel_rfl) (by kernel_rfl) (by kernel_rfl) (fun _ _ _ h => h) (Or.inl ⟨by rfl, by intro w hSw; (try dsimp only at hSw); go_simp; first | done | with_reducible rfl⟩) hHeld ?_
        try simp only [Act.put, List.getElem_toArray, List.getElem_cons_succ, List.getElem_cons_zero, List.setIfInBounds_toArray, List.set_cons_zero, List.set_cons_succ]
        clear q
        refine wpAnyH_take (i := 14) (oi := _) (v := _) rfl (by kernel_rfl) (by kernel_rfl) (by kernel_rfl) (fun _ _ _ h => h) (Or.inl ⟨by rfl, by intro w hSw; (try dsimp only at hSw); go_simp; first | done | with_reducible rfl⟩) hHeld ?_
        try simp only [Act.put, List.getElem_toArray, List.getElem_cons_succ, List.getElem_cons_zero, List.setIfInBounds_toArray, List.set_cons_zero, List.set_cons_succ]
        refine wpAnyH_take (i := 15) (oi := _) (v := _) rfl (by kernel_rfl) (by kernel_rfl) (by kernel_rfl) (fun _ _ _ h => h) (Or.inl ⟨by rfl, by intro w hSw; (try dsimp only at hSw); go_simp; first | done | with_reducible rfl⟩) hHeld ?_
        try simp only [Act.put, List.getElem_toArray, List.getElem_cons_succ, List.getElem_cons_zero, List.setIfInBounds_toArray, List.set_cons_zero, List.set_cons_succ]
        refine wpAnyH_done (by kernel_rfl) ?_ _
        go_wp2_with fail
        go_ret
        exact ⟨rfl, (bel5.drew).trans (hbx95.mono bel5.drew.size)⟩
set_option maxRecDepth 100000 in
set_option maxHeartbeats 3200000 in
theorem wr_zero (A : Option Addr) (n c : Nat) (l : List Nat) (w : World) (h : BIn w A n c l) (hn : n ≤ 140737488351232) :
    Calls Try.prog 4 #[.slice A n c, .agg (natsV .u64 (zeros 4)).toArray] w fun e w' => e = .returned (.bool true) ∧ Below w.heap.size w w' := by
  have HRE := Lib.hid (fun A n c (W : World) => Reduce_zero A n c W)
  obtain ⟨lm, hlm⟩ : ∃ l, l = zeros 4 := ⟨_, rfl⟩
  have LM := Lib.hid (show lm.length = 4 by rw [hlm]; rfl)
  have Q := Lib.hid (fun w => eqZ 0 (by decide) w)
  rw [num_zero, decide_eq_true rfl, ← hlm] at Q
  rw [← hlm] at HRE ⊢
  clear hlm
  have HIN := Lib.hid h
  have HLN := Lib.hid h.1.1
  have HL := Lib.hid h.1.2.2.1
  have hc1 := h.2.1
  have hc2 := h.2.2.1
  unfold maxLen at hc2
  clear h
  have HAW := Lib.hid (fun w => awake_any w)
  have B1 := Lib.hid (Blk.new w 24 (natsV .u64 lm))
  have BEL := Lib.hid ((Below.refl w.heap.size w).alloc (Nat.le_refl _) (.cells (natsV .u64 lm).toArray 24))
  have HIN1 := Lib.hid (HIN.out.below BEL.out)
  go_enter Try.func4, Try.ntmps4
  go_wp2_with fail
  refine (HAW.out _).mono ?_
  rintro e w1 ⟨rfl, hb⟩
  have C1 := Lib.hid (B1.out.below' hb)
  have HB0 := Lib.hid (HIN1.out.below hb)
  have bel1 := BEL.out.trans (hb.mono BEL.out.size)
  clear B1 BEL HIN1 hb HAW HIN
  have HB := Lib.hid (HB0.out.below ((Below.refl _ _).alloc (Nat.le_refl _) (.cells #[] 5)))
  have HZ := Lib.hid (zero_row w1)
  go_wp2_with (at_builtin; refine wpList_append_bytes _ rfl _ _ rfl w1.heap.size (.slice (some ⟨w1.heap.size, 0, none⟩) 0 0) 0 [] rfl HZ.out A n c l rfl HB.out ?c1 ?c2 ?_)
  case c1 => omega
  case c2 => simp
  intro v' w2 h1 h2
  have hb1 := ((Below.refl w1.heap.size w1).alloc (Nat.le_refl _) (.cells #[] 5)).grown h2 (by simp) (fun j hj => (HZ.out.lt j hj).1)
  have hsz := hb1.size
  have HO := Lib.hid (h1.alloc (.cells #[.int .u8 (77 : Nat)] 5))
  have HN := Lib.hid (bin_one w2 77 (by decide))
  have hbel := hb1.alloc hsz (.cells #[.int .u8 (77 : Nat)] 5)
  clear h1 h2 HB HZ hb1
  go_wp2_with (at_builtin; refine wpList_append_bytes _ rfl _ _ rfl w1.heap.size v' n l rfl HO.out (some ⟨w2.heap.size, 0, none⟩) 1 1 [77] rfl HN.out ?d1 ?d2 ?_)
  case d1 => omega
  case d2 => simp; omega
  intro v2 w3 h1 h2
  have hb2 := hbel.grown h2 (by simp; omega) (fun j hj => (HO.out.lt j hj).1)
  clear HO HN hbel h2
  obtain ⟨G, cap, rfl, hcap⟩ : ∃ G cap, v2 = .slice (some ⟨G, 0, none⟩) (n + 1) cap ∧ n + 1 ≤ cap := by
    rcases h1.2 with ⟨he, h0⟩ | ⟨G, cap, cur, e1, e2, e3⟩
    · exact absurd h0 (by simp)
    · exact ⟨G, cap, e1, by omega⟩
  have HU := Lib.hid (ownM_in h1 HL.out HLN.out (by omega))
  have hcell := (own_cells h1).2 n (by omega)
  have hg : (l ++ [77]).getD n 0 = 77 := by have h := HLN.out; subst h; simp [List.getD_eq_getElem?_getD]
  have hgl : ∀ t, t < n → (l ++ [77]).getD t 0 = l.getD t 0 := by intro t ht; have h := HLN.out; simp [List.getD_eq_getElem?_getD, List.getElem?_append_left (show t < l.length by omega)]
  have HCL := Lib.hid (fun t (ht : t < n) => (by have h := (own_cells h1).2 t (by omega); rw [hgl t ht] at h; exact h : w3.cell? ⟨G, 0 + t, none⟩ = some (.int .u8 (l.getD t 0 : Nat))))
  rw [Nat.zero_add, hg] at hcell
  clear hg hgl h1
  have C3 := Lib.hid (C1.out.below' hb2)
  have HB3 := Lib.hid (HB0.out.below hb2)
  have bel3 := bel1.trans (hb2.mono bel1.size)
  clear C1 HB0 bel1 hb2 hsz
  have hk : (n : Int) ≤ (cap : Int) := by omega
  have hn0 : (0 : Int) ≤ (n : Int) := by omega
  have LXX := LM
  have HCC := Lib.hid (fun (W : World) (hb : Below w3.heap.size w3 W) => HRE.out (some ⟨G, 0, none⟩) n cap W)
  have BL0 := (Below.refl w3.heap.size w3).drew
  have i24m : (Try.prog.info? 24).map (·.size) = some (natsV .u64 lm).length := by rw [info24, natsV_length, LM.out]
  go_wp2_with fail
  refine wp_region_held_drew (S := (fun w' => w'.rangeAt w.heap.size 0 (natsV .u64 lm))) (by kernel_rfl) (blk_rangeV C3.out.drew) (fun hHeld => ?_)
  refine wpAnyH_take (i := 0) (oi := _) (v := _) rfl (by kernel_rfl) (by kernel_rfl) (by kernel_rfl) (fun _ _ _ h => h) (Or.inl ⟨by rfl, by intro w hSw; (try dsimp only at hSw); go_simp; first | done | with_reducible rfl⟩) hHeld ?_
  try simp only [Act.put, List.getElem_toArray, List.getElem_cons_succ, List.getElem_cons_zero, List.setIfInBounds_toArray, List.set_cons_zero, List.set_cons_succ]
  refine wpAnyH_take (i := 1) (oi := _) (v := _) rfl (by kernel_rfl) (by kernel_rfl) (by kernel_rfl) (fun _ _ _ h => h) (Or.inl ⟨by rfl, by intro w hSw; (try dsimp only at hSw); go_simp; first | done | with_reducible rfl⟩) hHeld ?_
  try simp only [Act.put, List.getElem_toArray, List.getElem_cons_succ, List.getElem_cons_zero, List.setIfInBounds_toArray, List.set_cons_zero, List.set_cons_succ]
  refine wpAnyH_take (i := 2) (oi := _) (v := _) rfl (by kernel_rfl) (by kernel_rfl) (by kernel_rfl) (fun _ _ _ h => h) (Or.inl ⟨by rfl, by intro w hSw; (try dsimp only at hSw); go_simp; first | done | with_reducible rfl⟩) hHeld ?_
  try simp only [Act.put, List.getElem_toArray, List.getElem_cons_succ, List.getElem_cons_zero, List.setIfInBounds_toArray, List.set_cons_zero, List.set_cons_succ]
  refine wpAnyH_take (i := 3) (oi := _) (v := _) rfl (by kernel_rfl) (by kernel_rfl) (by kernel_rfl) (fun _ _ _ h => h) (Or.inl ⟨by rfl, by intro w hSw; (try dsimp only at hSw); go_simp; first | done | with_reducible rfl⟩) hHeld ?_
  try simp only [Act.put, List.getElem_toArray, List.getElem_cons_succ, List.getElem_cons_zero, List.setIfInBounds_toArray, List.set_cons_zero, List.set_cons_succ]
  refine wpAnyH_take (i := 4) (oi := _) (v := _) rfl (by kernel_rfl) (by kernel_rfl) (by kernel_rfl) (fun _ _ _ h => h) (yieldsIf_load_mid (by rfl) _ _ rfl _ _ rfl _ _ (by intro w hSw; exact hSw) Try.underlying24 rfl i24m) hHeld ?_
  try simp only [Act.put, List.getElem_toArray, List.getElem_cons_succ, List.getElem_cons_zero, List.setIfInBounds_toArray, List.set_cons_zero, List.set_cons_succ]
  refine wpAnyH_ready (rs := [5, 9]) (by kernel_rfl) (by simp) ?_
  refine AllReadyH.cons (o := _) rfl (fun K hK => ?_) (AllReadyH.cons (o := _) rfl (fun K hK => ?_) AllReadyH.nil)
  · go_simp
    go_at_call 16
    refine (HCC.out _ (by first | exact BL0 | assumption)).mono ?_
    rintro e wx1_ ⟨rfl, hwx1_⟩
    refine hK.out _ _ (keep1 hwx1_ hHeld) (fun hHeld2 => ?_)
    clear hK K hHeld
    have hHeld := hHeld2
    clear hHeld2
    try simp only [Act.put, List.getElem_toArray, List.getElem_cons_succ, List.getElem_cons_zero, List.setIfInBounds_toArray, List.set_cons_zero, List.set_cons_succ]
    have X2_ := Lib.hid (C3.out.drew.below' hwx1_)
    have bel3_ := BL0.trans (hwx1_.mono BL0.size)
    refine wpAnyH_take (i := 6) (oi := _) (v := _) rfl (by kernel_rfl) (by kernel_rfl) (by kernel_rfl) (fun _ _ _ h => h) (Or.inl ⟨by rfl, by intro w hSw; (try dsimp only at hSw); go_simp; first | done | with_reducible rfl⟩) hHeld ?_
    try simp only [Act.put, List.getElem_toArray, List.getElem_cons_succ, List.getElem_cons_zero, List.setIfInBounds_toArray, List.set_cons_zero, List.set_cons_succ]
    refine wpAnyH_take (i := 7) (oi := _) (v := _) rfl (by kernel_rfl) (by kernel_rfl) (by kernel_rfl) (fun _ _ _ h => h) (Or.inl ⟨by rfl, by intro w hSw; (try dsimp only at hSw); go_simp; first | done | with_reducible rfl⟩) hHeld ?_
    try simp only [Act.put, List.getElem_toArray, List.getElem_cons_succ, List.getElem_cons_zero, List.setIfInBounds_toArray, List.set_cons_zero, List.set_cons_succ]
    refine wpAnyH_take (i := 8) (oi := _) (v := _) rfl (by kernel_rfl) (by kernel_rfl) (by kernel_rfl) (fun _ _ _ h => h) (Or.inl ⟨by rfl, by intro w hSw; (try dsimp only at hSw); go_simp; first | done | with_reducible rfl⟩) hHeld ?_
    try simp only [Act.put, List.getElem_toArray, List.getElem_cons_succ, List.getElem_cons_zero, List.setIfInBounds_toArray, List.set_cons_zero, List.set_cons_succ]
    refine wpAnyH_ready (rs := [9]) (by kernel_rfl) (by simp) ?_
    refine AllReadyH.cons (o := _) rfl (fun K hK => ?_) AllReadyH.nil
    have hnb9_m := X2_.out.lt
    go_simp
    refine hK.out _ _ (keep1 ((Below.refl _ _).alloc (Nat.le_refl _) _) hHeld) (fun hHeld2 => ?_)
    clear hK K hHeld
    have hHeld := hHeld2
    clear hHeld2
    try simp only [Act.put, List.getElem_toArray, List.getElem_cons_succ, List.getElem_cons_zero, List.setIfInBounds_toArray, List.set_cons_zero, List.set_cons_succ]
    obtain ⟨wy4_, hwy4_⟩ : ∃ W_ : World, W_ = (wx1_).alloc (.cells (natsV .u64 (zeros 4)).toArray 24) := ⟨_, rfl⟩
    have X5_ := Lib.hid (show Blk wy4_ w.heap.size 24 (natsV .u64 lm) from by rw [hwy4_]; exact X2_.out.alloc (.cells (natsV .u64 (zeros 4)).toArray 24))
    have Z6_ := Lib.hid (show Blk wy4_ (wx1_.heap.size) 24 (natsV .u64 (zeros 4)) from by rw [hwy4_]; exact Blk.new _ _ _)
    have bel7_ : Below w3.heap.size w3 wy4_ := by rw [hwy4_]; exact (bel3_.alloc bel3_.size (.cells (natsV .u64 (zeros 4)).toArray 24))
    have hHeld3 : wy4_.rangeAt w.heap.size 0 (natsV .u64 lm) := by rw [hwy4_]; exact hHeld
    clear hHeld
    have hHeld := hHeld3
    clear hHeld3
    refine world_as_ hwy4_ ?_
    clear hwy4_
    have hlm_ := X5_.out.lt
    refine wpAnyH_ready (rs := [10]) (by kernel_rfl) (by simp) ?_
    refine AllReadyH.cons (o := _) rfl (fun K hK => ?_) AllReadyH.nil
    rw [if_pos (by rfl)]
    refine wst24 (.tmp 7) (.tmp 24) rfl (wx1_.heap.size) rfl lm rfl LXX.out (zeros 4) Z6_.out rfl ?_
    refine hK.out _ _ (blk_rangeV (X5_.out.row (natsV .u64 lm).toArray (by first | assumption | exact Nat.ne_of_lt hlm_ | exact Nat.ne_of_lt (by assumption) | omega))) (fun hHeld2 => ?_)
    clear hK K hHeld
    have hHeld := hHeld2
    clear hHeld2
    try simp only [Act.put, List.getElem_toArray, List.getElem_cons_succ, List.getElem_cons_zero, List.setIfInBounds_toArray, List.set_cons_zero, List.set_cons_succ]
    refine wpAnyH_take (i := 11) (oi := _) (v := _) rfl (by kernel_rfl) (by kernel_rfl) (by kernel_rfl) (fun _ _ _ h => h) (Or.inl ⟨by rfl, by intro w hSw; (try dsimp only at hSw); go_simp; first | done | with_reducible rfl⟩) hHeld ?_
    try simp only [Act.put, List.getElem_toArray, List.getElem_cons_succ, List.getElem_cons_zero, List.setIfInBounds_toArray, List.set_cons_zero, List.set_cons_succ]
    refine wpAnyH_done (by kernel_rfl) ?_ _
    have F_t := Lib.hid (Z6_.out.setRow (natsV .u64 lm))
    have belF := below_setRow' bel7_ (show w3.heap.size ≤ (wx1_.heap.size) by first | exact Nat.le_refl _ | omega | exact hwx1_.size) (natsV .u64 lm).toArray
    as_aux_lemma =>
    generalize World.setRow _ _ _ = wf at *
    generalize (wx1_.heap.size) = aZ at *
    have C4 := Lib.hid (C3.out.below' belF)
    have HB4 := Lib.hid (HB3.out.below belF)
    have hcell4 := (belF.cell (World.block_lt_of_cell? w3 _ hcell)).trans hcell
    have HC4 := Lib.hid (fun t (ht : t < n) => (belF.cell (World.block_lt_of_cell? w3 _ (HCL.out t ht))).trans (HCL.out t ht))
    have bel4 := bel3.trans (belF.mono bel3.size)
    clear hcell HCL C3 HB3 bel3 belF HU HCC HRE BL0
    have i1 : (n : Int) + 1 ≤ (cap : Int) := by omega
    have i2 : (n : Int) < (n : Int) + 1 := by omega
    go_wp2_with fail
    clear hcell4
    go_loopw [9, 10] (fun st i wr => st = .bool true ∧ (∃ t : Nat, t ≤ n ∧ i = .int .i64 t) ∧ Below wf.heap.size wf wr) (fun _ i _ => n - (intOf i).toNat)
    case atStart => exact ⟨rfl, ⟨0, by omega, rfl⟩, Below.refl _ _⟩
    case round =>
      obtain ⟨rfl, ⟨t, ht, rfl⟩, hbel⟩ := hrel
      by_cases h5 : t < n
      · as_aux_lemma =>
        have hti : (t : Int) < (n : Int) := by omega
        have hti3 : (t : Int) < (n : Int) + 1 := by omega
        obtain ⟨b, off, rfl, hbc⟩ := row_byte HB4.out.1 t h5
        have ca := HC4.out t h5
        have cb := hbc t h5
        clear hbc HC4 HB4
        rw [Nat.zero_add] at ca
        have ca2 := (hbel.cell (World.block_lt_of_cell? _ _ ca)).trans ca
        have cb2 := (hbel.cell (World.block_lt_of_cell? _ _ cb)).trans cb
        clear ca cb
        generalize l.getD t 0 = x at *
        go_wp2_with fail
        refine wp_region_held_drew (S := (fun w' => w'.cell? ⟨G, t, none⟩ = some (.int .u8 (x : Nat)) ∧ w'.cell? ⟨b, off + t, none⟩ = some (.int .u8 (x : Nat)))) (by kernel_rfl) ⟨ca2, cb2⟩ (fun hHeld => ?_)
        refine wpAnyH_take (i := 0) (oi := _) (v := _) rfl (by kernel_rfl) (by kernel_rfl) (by kernel_rfl) (fun _ _ _ h => h) (Or.inl ⟨by rfl, by intro w hSw; (try dsimp only at hSw); go_simp; first | done | with_reducible rfl⟩) hHeld ?_
        try simp only [Act.put, List.getElem_toArray, List.getElem_cons_succ, List.getElem_cons_zero, List.setIfInBounds_toArray, List.set_cons_zero, List.set_cons_succ]
        refine wpAnyH_take (i := 1) (oi := _) (v := _) rfl (by kernel_rfl) (by kernel_rfl) (by kernel_rfl) (fun _ _ _ h => h) (Or.inl ⟨by rfl, by intro w hSw; (try dsimp only at hSw); go_simp; first | done | with_reducible rfl⟩) hHeld ?_
        try simp only [Act.put, List.getElem_toArray, List.getElem_cons_succ, List.getElem_cons_zero, List.setIfInBounds_toArray, List.set_cons_zero, List.set_cons_succ]
        refine wpAnyH_take (i := 2) (oi := _) (v := _) rfl (by kernel_rfl) (by kernel_rfl) (by kernel_rfl) (fun _ _ _ h => h) (Or.inl ⟨by rfl, by intro w hSw; (try dsimp only at hSw); go_simp; first | done | with_reducible rfl⟩) hHeld ?_
        try simp only [Act.put, List.getElem_toArray, List.getElem_cons_succ, List.getElem_cons_zero, List.setIfInBounds_toArray, List.set_cons_zero, List.set_cons_succ]
        refine wpAnyH_take (i := 3) (oi := _) (v := _) rfl (by kernel_rfl) (by kernel_rfl) (by kernel_rfl) (fun _ _ _ h => h) (Or.inl ⟨by rfl, by intro w hSw; (try dsimp only at hSw); go_simp; first | done | with_reducible rfl⟩) hHeld ?_
        try simp only [Act.put, List.getElem_toArray, List.getElem_cons_succ, List.getElem_cons_zero, List.setIfInBounds_toArray, List.set_cons_zero, List.set_cons_succ]
        refine wpAnyH_take (i := 4) (oi := _) (v := _) rfl (by kernel_rfl) (by kernel_rfl) (by kernel_rfl) (fun _ _ _ h => h) (Or.inl ⟨by rfl, by intro w hSw; (try dsimp only at hSw); go_simp; first | done | with_reducible rfl⟩) hHeld ?_
        try simp only [Act.put, List.getElem_toArray, List.getElem_cons_succ, List.getElem_cons_zero, List.setIfInBounds_toArray, List.set_cons_zero, List.set_cons_succ]
        refine wpAnyH_take (i := 5) (oi := _) (v := _) rfl (by kernel_rfl) (by kernel_rfl) (by kernel_rfl) (fun _ _ _ h => h) (Or.inl ⟨by rfl, by intro w hSw; (try dsimp only at hSw); go_simp; first | done | with_reducible rfl⟩) hHeld ?_
        try simp only [Act.put, List.getElem_toArray, List.getElem_cons_succ, List.getElem_cons_zero, List.setIfInBounds_toArray, List.set_cons_zero, List.set_cons_succ]
        refine wpAnyH_take (i := 6) (oi := _) (v := _) rfl (by kernel_rfl) (by kernel_rfl) (by kernel_rfl) (fun _ _ _ h => h) (Or.inl ⟨by rfl, by intro w hSw; (try dsimp only at hSw); go_simp; first | done | with_reducible rfl⟩) hHeld ?_
        try simp only [Act.put, List.getElem_toArray, List.getElem_cons_succ, List.getElem_cons_zero, List.setIfInBounds_toArray, List.set_cons_zero, List.set_cons_succ]
        refine wpAnyH_take (i := 7) (oi := _) (v := _) rfl (by kernel_rfl) (by kernel_rfl) (by kernel_rfl) (fun _ _ _ h => h) (Or.inl ⟨by rfl, by intro w hSw; (try dsimp only at hSw); go_simp; first | done | with_reducible rfl⟩) hHeld ?_
        try simp only [Act.put, List.getElem_toArray, List.getElem_cons_succ, List.getElem_cons_zero, List.setIfInBounds_toArray, List.set_cons_zero, List.set_cons_succ]
        refine wpAnyH_take (i := 8) (oi := _) (v := _) rfl (by kernel_rfl) (by kernel_rfl) (by kernel_rfl) (fun _ _ _ h => h) (Or.inl ⟨by rfl, by intro w hSw; (try dsimp only at hSw); go_simp; first | done | with_reducible rfl⟩) hHeld ?_
        try simp only [Act.put, List.getElem_toArray, List.getElem_cons_succ, List.getElem_cons_zero, List.setIfInBounds_toArray, List.set_cons_zero, List.set_cons_succ]
        refine wpAnyH_take (i := 9) (oi := _) (v := _) rfl (by kernel_rfl) (by kernel_rfl) (by kernel_rfl) (fun _ _ _ h => h) (Or.inl ⟨by rfl, by intro w hSw; (try dsimp only at hSw); go_simp; first | done | with_reducible rfl⟩) hHeld ?_
        try simp only [Act.put, List.getElem_toArray, List.getElem_cons_succ, List.getElem_cons_zero, List.setIfInBounds_toArray, List.set_cons_zero, List.set_cons_succ]
        refine wpAnyH_take (i := 10) (oi := _) (v := _) rfl (by kernel_rfl) (by kernel_rfl) (by kernel_rfl) (fun _ _ _ h => h) (Or.inl ⟨by rfl, by intro w hSw; (try dsimp only at hSw); go_simp; first | done | with_reducible rfl⟩) hHeld ?_
        try simp only [Act.put, List.getElem_toArray, List.getElem_cons_succ, List.getElem_cons_zero, List.setIfInBounds_toArray, List.set_cons_zero, List.set_cons_succ]
        refine wpAnyH_take (i := 11) (oi := _) (v := _) rfl (by kernel_rfl) (by kernel_rfl) (by kernel_rfl) (fun _ _ _ h => h) (Or.inl ⟨by rfl, by intro w hSw; (try dsimp only at hSw); go_simp; first | done | with_reducible rfl⟩) hHeld ?_
        try simp only [Act.put, List.getElem_toArray, List.getElem_cons_succ, List.getElem_cons_zero, List.setIfInBounds_toArray, List.set_cons_zero, List.set_cons_succ]
        refine wpAnyH_take (i := 12) (oi := _) (v := _) rfl (by kernel_rfl) (by kernel_rfl) (by kernel_rfl) (fun _ _ _ h => h) (Or.inl ⟨by rfl, by intro w hSw; (try dsimp only at hSw); go_simp; first | done | with_reducible rfl⟩) hHeld ?_
        try simp only [Act.put, List.getElem_toArray, List.getElem_cons_succ, List.getElem_cons_zero, List.setIfInBounds_toArray, List.set_cons_zero, List.set_cons_succ]
        refine wpAnyH_done (by kernel_rfl) ?_ _
        go_wp2_with fail
        go_roundw
        case rel => exact ⟨rfl, ⟨t + 1, by omega, by go_num⟩, hbel.drew⟩
        case measure => simp [intOf] <;> omega
      · as_aux_lemma =>
        obtain rfl : t = n := by omega
        have hti : ¬ ((t : Int) < (t : Int)) := by omega
        have C5 := Lib.hid (C4.out.below' hbel)
        have F5 := Lib.hid (F_t.out.below' hbel)
        have HB5 := Lib.hid (HB4.out.below hbel)
        have bel5 := bel4.trans (hbel.mono bel4.size)
        clear C4 F_t HB4 HC4 bel4 hbel
        have q := Q.out
        go_wp2_with (first | (refine ld24 rfl (.tmp 3) rfl w.heap.size rfl lm C5.out LM.out ?_) | (refine ldw 24 (.tmp 7) rfl aZ rfl .u64 lm F5.out _ _ Try.underlying24 (by rw [info24, LM.out]) 8 rfl 61 rfl rfl ?_))
        go_ret
        exact ⟨rfl, bel5⟩
  · have hnb9_m := C3.out.drew.lt
    go_simp
    refine hK.out _ _ (keep1 ((Below.refl _ _).alloc (Nat.le_refl _) _) hHeld) (fun hHeld2 => ?_)
    clear hK K hHeld
    have hHeld := hHeld2
    clear hHeld2
    try simp only [Act.put, List.getElem_toArray, List.getElem_cons_succ, List.getElem_cons_zero, List.setIfInBounds_toArray, List.set_cons_zero, List.set_cons_succ]
    obtain ⟨wy8_, hwy8_⟩ : ∃ W_ : World, W_ = (w3.drew).alloc (.cells (natsV .u64 (zeros 4)).toArray 24) := ⟨_, rfl⟩
    have X9_ := Lib.hid (show Blk wy8_ w.heap.size 24 (natsV .u64 lm) from by rw [hwy8_]; exact C3.out.drew.alloc (.cells (natsV .u64 (zeros 4)).toArray 24))
    have Z10_ := Lib.hid (show Blk wy8_ (w3.drew.heap.size) 24 (natsV .u64 (zeros 4)) from by rw [hwy8_]; exact Blk.new _ _ _)
    have bel11_ : Below w3.heap.size w3 wy8_ := by rw [hwy8_]; exact (BL0.alloc BL0.size (.cells (natsV .u64 (zeros 4)).toArray 24))
    have hHeld3 : wy8_.rangeAt w.heap.size 0 (natsV .u64 lm) := by rw [hwy8_]; exact hHeld
    clear hHeld
    have hHeld := hHeld3
    clear hHeld3
    refine world_as_ hwy8_ ?_
    clear hwy8_
    refine wpAnyH_ready (rs := [5]) (by kernel_rfl) (by simp) ?_
    refine AllReadyH.cons (o := _) rfl (fun K hK => ?_) AllReadyH.nil
    go_simp
    go_at_call 16
    refine (HCC.out _ (by first | exact BL0 | assumption)).mono ?_
    rintro e wx12_ ⟨rfl, hwx12_⟩
    refine hK.out _ _ (keep1 hwx12_ hHeld) (fun hHeld2 => ?_)
    clear hK K hHeld
    have hHeld := hHeld2
    clear hHeld2
    try simp only [Act.put, List.getElem_toArray, List.getElem_cons_succ, List.getElem_cons_zero, List.setIfInBounds_toArray, List.set_cons_zero, List.set_cons_succ]
    have X13_ := Lib.hid (X9_.out.below' hwx12_)
    have X14_ := Lib.hid (Z10_.out.below' hwx12_)
    have bel15_ := bel11_.trans (hwx12_.mono bel11_.size)
    refine wpAnyH_take (i := 6) (oi := _) (v := _) rfl (by kernel_rfl) (by kernel_rfl) (by kernel_rfl) (fun _ _ _ h => h) (Or.inl ⟨by rfl, by intro w hSw; (try dsimp only at hSw); go_simp; first | done | with_reducible rfl⟩) hHeld ?_
    try simp only [Act.put, List.getElem_toArray, List.getElem_cons_succ, List.getElem_cons_zero, List.setIfInBounds_toArray, List.set_cons_zero, List.set_cons_succ]
    refine wpAnyH_take (i := 7) (oi := _) (v := _) rfl (by kernel_rfl) (by kernel_rfl) (by kernel_rfl) (fun _ _ _ h => h) (Or.inl ⟨by rfl, by intro w hSw; (try dsimp only at hSw); go_simp; first | done | with_reducible rfl⟩) hHeld ?_
    try simp only [Act.put, List.getElem_toArray, List.getElem_cons_succ, List.getElem_cons_zero, List.setIfInBounds_toArray, List.set_cons_zero, List.set_cons_succ]
    refine wpAnyH_take (i := 8) (oi := _) (v := _) rfl (by kernel_rfl) (by kernel_rfl) (by kernel_rfl) (fun _ _ _ h => h) (Or.inl ⟨by rfl, by intro w hSw; (try dsimp only at hSw); go_simp; first | done | with_reducible rfl⟩) hHeld ?_
    try simp only [Act.put, List.getElem_toArray, List.getElem_cons_succ, List.getElem_cons_zero, List.setIfInBounds_toArray, List.set_cons_zero, List.set_cons_succ]
    have hlm_ := X13_.out.lt
    refine wpAnyH_ready (rs := [10]) (by kernel_rfl) (by simp) ?_
    refine AllReadyH.cons (o := _) rfl (fun K hK => ?_) AllReadyH.nil
    rw [if_pos (by rfl)]
    refine wst24 (.tmp 7) (.tmp 24) rfl (w3.drew.heap.size) rfl lm rfl LXX.out (zeros 4) X14_.out rfl ?_
    refine hK.out _ _ (blk_rangeV (X13_.out.row (natsV .u64 lm).toArray (by first | assumption | exact Nat.ne_of_lt hlm_ | exact Nat.ne_of_lt (by assumption) | omega))) (fun hHeld2 => ?_)
    clear hK K hHeld
    have hHeld := hHeld2
    clear hHeld2
    try simp only [Act.put, List.getElem_toArray, List.getElem_cons_succ, List.getElem_cons_zero, List.setIfInBounds_toArray, List.set_cons_zero, List.set_cons_succ]
    refine wpAnyH_take (i := 11) (oi := _) (v := _) rfl (by kernel_rfl) (by kernel_rfl) (by kernel_rfl) (fun _ _ _ h => h) (Or.inl ⟨by rfl, by intro w hSw; (try dsimp only at hSw); go_simp; first | done | with_reducible rfl⟩) hHeld ?_
    try simp only [Act.put, List.getElem_toArray, List.getElem_cons_succ, List.getElem_cons_zero, List.setIfInBounds_toArray, List.set_cons_zero, List.set_cons_succ]
    refine wpAnyH_done (by kernel_rfl) ?_ _
    have F_t := Lib.hid (X14_.out.setRow (natsV .u64 lm))
    have belF := below_setRow' bel15_ (show w3.heap.size ≤ (w3.drew.heap.size) by first | exact Nat.le_refl _ | omega | exact BL0.size) (natsV .u64 lm).toArray
    as_aux_lemma =>
    generalize World.setRow _ _ _ = wf at *
    have F_t := Lib.hid (show Blk wf w3.heap.size 24 (natsV .u64 lm) from F_t.out)
    have C4 := Lib.hid (C3.out.below' belF)
    have HB4 := Lib.hid (HB3.out.below belF)
    have hcell4 := (belF.cell (World.block_lt_of_cell? w3 _ hcell)).trans hcell
    have HC4 := Lib.hid (fun t (ht : t < n) => (belF.cell (World.block_lt_of_cell? w3 _ (HCL.out t ht))).trans (HCL.out t ht))
    have bel4 := bel3.trans (belF.mono bel3.size)
    clear hcell HCL C3 HB3 bel3 belF HU HCC HRE BL0
    have i1 : (n : Int) + 1 ≤ (cap : Int) := by omega
    have i2 : (n : Int) < (n : Int) + 1 := by omega
    go_wp2_with fail
    clear hcell4
    go_loopw [9, 10] (fun st i wr => st = .bool true ∧ (∃ t : Nat, t ≤ n ∧ i = .int .i64 t) ∧ Below wf.heap.size wf wr) (fun _ i _ => n - (intOf i).toNat)
    case atStart => exact ⟨rfl, ⟨0, by omega, rfl⟩, Below.refl _ _⟩
    case round =>
      obtain ⟨rfl, ⟨t, ht, rfl⟩, hbel⟩ := hrel
      by_cases h5 : t < n
      · as_aux_lemma =>
        have hti : (t : Int) < (n : Int) := by omega
        have hti3 : (t : Int) < (n : Int) + 1 := by omega
        obtain ⟨b, off, rfl, hbc⟩ := row_byte HB4.out.1 t h5
        have ca := HC4.out t h5
        have cb := hbc t h5
        clear hbc HC4 HB4
        rw [Nat.zero_add] at ca
        have ca2 := (hbel.cell (World.block_lt_of_cell? _ _ ca)).trans ca
        have cb2 := (hbel.cell (World.block_lt_of_cell? _ _ cb)).trans cb
        clear ca cb
        generalize l.getD t 0 = x at *
        go_wp2_with fail
        refine wp_region_held_drew (S := (fun w' => w'.cell? ⟨G, t, none⟩ = some (.int .u8 (x : Nat)) ∧ w'.cell? ⟨b, off + t, none⟩ = some (.int .u8 (x : Nat)))) (by kernel_rfl) ⟨ca2, cb2⟩ (fun hHeld => ?_)
        refine wpAnyH_take (i := 0) (oi := _) (v := _) rfl (by kernel_rfl) (by kernel_rfl) (by kernel_rfl) (fun _ _ _ h => h) (Or.inl ⟨by rfl, by intro w hSw; (try dsimp only at hSw); go_simp; first | done | with_reducible rfl⟩) hHeld ?_
        try simp only [Act.put, List.getElem_toArray, List.getElem_cons_succ, List.getElem_cons_zero, List.setIfInBounds_toArray, List.set_cons_zero, List.set_cons_succ]
        refine wpAnyH_take (i := 1) (oi := _) (v := _) rfl (by kernel_rfl) (by kernel_rfl) (by kernel_rfl) (fun _ _ _ h => h) (Or.inl ⟨by rfl, by intro w hSw; (try dsimp only at hSw); go_simp; first | done | with_reducible rfl⟩) hHeld ?_
        try simp only [Act.put, List.getElem_toArray, List.getElem_cons_succ, List.getElem_cons_zero, List.setIfInBounds_toArray, List.set_cons_zero, List.set_cons_succ]
        refine wpAnyH_take (i := 2) (oi := _) (v := _) rfl (by kernel_rfl) (by kernel_rfl) (by kernel_rfl) (fun _ _ _ h => h) (Or.inl ⟨by rfl, by intro w hSw; (try dsimp only at hSw); go_simp; first | done | with_reducible rfl⟩) hHeld ?_
        try simp only [Act.put, List.getElem_toArray, List.getElem_cons_succ, List.getElem_cons_zero, List.setIfInBounds_toArray, List.set_cons_zero, List.set_cons_succ]
        refine wpAnyH_take (i := 3) (oi := _) (v := _) rfl (by kernel_rfl) (by kernel_rfl) (by kernel_rfl) (fun _ _ _ h => h) (Or.inl ⟨by rfl, by intro w hSw; (try dsimp only at hSw); go_simp; first | done | with_reducible rfl⟩) hHeld ?_
        try simp only [Act.put, List.getElem_toArray, List.getElem_cons_succ, List.getElem_cons_zero, List.setIfInBounds_toArray, List.set_cons_zero, List.set_cons_succ]
        refine wpAnyH_take (i := 4) (oi := _) (v := _) rfl (by kernel_rfl) (by kernel_rfl) (by kernel_rfl) (fun _ _ _ h => h) (Or.inl ⟨by rfl, by intro w hSw; (try dsimp only at hSw); go_simp; first | done | with_reducible rfl⟩) hHeld ?_
        try simp only [Act.put, List.getElem_toArray, List.getElem_cons_succ, List.getElem_cons_zero, List.setIfInBounds_toArray, List.set_cons_zero, List.set_cons_succ]
        refine wpAnyH_take (i := 5) (oi := _) (v := _) rfl (by kernel_rfl) (by kernel_rfl) (by kernel_rfl) (fun _ _ _ h => h) (Or.inl ⟨by rfl, by intro w hSw; (try dsimp only at hSw); go_simp; first | done | with_reducible rfl⟩) hHeld ?_
        try simp only [Act.put, List.getElem_toArray, List.getElem_cons_succ, List.getElem_cons_zero, List.setIfInBounds_toArray, List.set_cons_zero, List.set_cons_succ]
        refine wpAnyH_take (i := 6) (oi := _) (v := _) rfl (by kernel_rfl) (by kernel_rfl) (by kernel_rfl) (fun _ _ _ h => h) (Or.inl ⟨by rfl, by intro w hSw; (try dsimp only at hSw); go_simp; first | done | with_reducible rfl⟩) hHeld ?_
        try simp only [Act.put, List.getElem_toArray, List.getElem_cons_succ, List.getElem_cons_zero, List.setIfInBounds_toArray, List.set_cons_zero, List.set_cons_succ]
        refine wpAnyH_take (i := 7) (oi := _) (v := _) rfl (by kernel_rfl) (by kernel_rfl) (by kernel_rfl) (fun _ _ _ h => h) (Or.inl ⟨by rfl, by intro w hSw; (try dsimp only at hSw); go_simp; first | done | with_reducible rfl⟩) hHeld ?_
        try simp only [Act.put, List.getElem_toArray, List.getElem_cons_succ, List.getElem_cons_zero, List.setIfInBounds_toArray, List.set_cons_zero, List.set_cons_succ]
        refine wpAnyH_take (i := 8) (oi := _) (v := _) rfl (by kernel_rfl) (by kernel_rfl) (by kernel_rfl) (fun _ _ _ h => h) (Or.inl ⟨by rfl, by intro w hSw; (try dsimp only at hSw); go_simp; first | done | with_reducible rfl⟩) hHeld ?_
        try simp only [Act.put, List.getElem_toArray, List.getElem_cons_succ, List.getElem_cons_zero, List.setIfInBounds_toArray, List.set_cons_zero, List.set_cons_succ]
        refine wpAnyH_take (i := 9) (oi := _) (v := _) rfl (by kernel_rfl) (by kernel_rfl) (by kernel_rfl) (fun _ _ _ h => h) (Or.inl ⟨by rfl, by intro w hSw; (try dsimp only at hSw); go_simp; first | done | with_reducible rfl⟩) hHeld ?_
        try simp only [Act.put, List.getElem_toArray, List.getElem_cons_succ, List.getElem_cons_zero, List.setIfInBounds_toArray, List.set_cons_zero, List.set_cons_succ]
        refine wpAnyH_take (i := 10) (oi := _) (v := _) rfl (by kernel_rfl) (by kernel_rfl) (by kernel_rfl) (fun _ _ _ h => h) (Or.inl ⟨by rfl, by intro w hSw; (try dsimp only at hSw); go_simp; first | done | with_reducible rfl⟩) hHeld ?_
        try simp only [Act.put, List.getElem_toArray, List.getElem_cons_succ, List.getElem_cons_zero, List.setIfInBounds_toArray, List.set_cons_zero, List.set_cons_succ]
        refine wpAnyH_take (i := 11) (oi := _) (v := _) rfl (by kernel_rfl) (by kernel_rfl) (by kernel_rfl) (fun _ _ _ h => h) (Or.inl ⟨by rfl, by intro w hSw; (try dsimp only at hSw); go_simp; first | done | with_reducible rfl⟩) hHeld ?_
        try simp only [Act.put, List.getElem_toArray, List.getElem_cons_succ, List.getElem_cons_zero, List.setIfInBounds_toArray, List.set_cons_zero, List.set_cons_succ]
        refine wpAnyH_take (i := 12) (oi := _) (v := _) rfl (by kernel_rfl) (by kernel_rfl) (by kernel_rfl) (fun _ _ _ h => h) (Or.inl ⟨by rfl, by intro w hSw; (try dsimp only at hSw); go_simp; first | done | with_reducible rfl⟩) hHeld ?_
        try simp only [Act.put, List.getElem_toArray, List.getElem_cons_succ, List.getElem_cons_zero, List.setIfInBounds_toArray, List.set_cons_zero, List.set_cons_succ]
        refine wpAnyH_done (by kernel_rfl) ?_ _
        go_wp2_with fail
        go_roundw
        case rel => exact ⟨rfl, ⟨t + 1, by omega, by go_num⟩, hbel.drew⟩
        case measure => simp [intOf] <;> omega
      · as_aux_lemma =>
        obtain rfl : t = n := by omega
        have hti : ¬ ((t : Int) < (t : Int)) := by omega
        have C5 := Lib.hid (C4.out.below' hbel)
        have F5 := Lib.hid (F_t.out.below' hbel)
        have HB5 := Lib.hid (HB4.out.below hbel)
        have bel5 := bel4.trans (hbel.mono bel4.size)
        clear C4 F_t HB4 HC4 bel4 hbel
        have q := Q.out
        go_wp2_with (first | (refine ld24 rfl (.tmp 3) rfl w.heap.size rfl lm C5.out LM.out ?_) | (refine ldw 24 (.tmp 7) rfl w3.heap.size rfl .u64 lm F5.out _ _ Try.underlying24 (by rw [info24, LM.out]) 8 rfl 61 rfl rfl ?_))
        go_ret
        exact ⟨rfl, bel5⟩
theorem wr_any (A : Option Addr) (n c m : Nat) (l : List Nat) (w : World) (h : BIn w A n c l) (hn : n ≤ 140737488351232) (hm : m < 2 ^ 256) :
    Calls Try.prog 4 #[.slice A n c, .agg (natsV .u64 (wds 4 m)).toArray] w fun e w' => e = .returned (.bool true) ∧ Below w.heap.size w w' := by
  by_cases h0 : m = 0
  · subst h0; rw [num_zero]; exact wr_zero A n c l w h hn
  · exact wr_some A n c m l w h hn hm h0
end Go.Proofs.Ytfaoajljaggklaa
