/- The document shifts bit by bit. Condition: the sizes of the arguments. -/
import Derived.Test.YtmibkgdfgaiedaaSm
namespace Go.Proofs.Ytmibkgdfgaiedaa
open Go.RowKit
set_option linter.unusedVariables false
set_option linter.unusedSimpArgs false
theorem bcell {W w1 : World} (hb : Below W.heap.size W w1) : (∀ b o, b < W.heap.size → w1.cell? ⟨b, o, none⟩ = W.cell? ⟨b, o, none⟩) ∧ (∀ b o, b < W.heap.size → w1.frozen? ⟨b, o, none⟩ = W.frozen? ⟨b, o, none⟩) :=
  ⟨fun b o h => hb.cell (p := ⟨b, o, none⟩) h, fun b o h => hb.frozen (p := ⟨b, o, none⟩) h⟩
theorem range_keep {w w' : World} {g : Nat} {l : List Nat} (h : w.rangeAt g 0 (natsV .u64 l)) (hb : Below w.heap.size w w') : w'.rangeAt g 0 (natsV .u64 l) := by
  intro j v hv
  have h1 := h j v hv
  exact (hb.cell (World.block_lt_of_cell? w _ h1)).trans h1
theorem blk_range {w : World} {G : Nat} {t : TypeId} {l : List Nat} (h : Blk w G t (natsV .u64 l)) : w.rangeAt G 0 (natsV .u64 l) := by
  intro j v hv
  rw [Nat.zero_add, h.cell, hv]
/-- word j of T, of its bits from s on -/
def part_ (T s j : Nat) : Nat := dgt (2 ^ 64) T j / 2 ^ (s - 64 * j)
theorem tell_set (f : Nat → Nat) (n p v : Nat) : (tell f n).set p v = tell (fun i => if i = p then v else f i) n := by
  apply List.ext_getElem?
  intro i
  rw [List.getElem?_set]
  simp only [tell, List.getElem?_map, List.length_map, List.length_range]
  by_cases hi : i < n
  · rw [List.getElem?_range hi]
    by_cases hp : p = i
    · subst hp; simp [hi]
    · rw [if_neg hp]; simp [Ne.symm hp, fun h : i = p => hp h.symm]
  · rw [List.getElem?_eq_none (by simpa using hi)]
    by_cases hp : p = i
    · subst hp; simp [hi]
    · simp [hp]
theorem div_pow_zero {v e : Nat} (hv : v < 2 ^ 64) (he : 64 ≤ e) : v / 2 ^ e = 0 :=
  Nat.div_eq_of_lt (Nat.lt_of_lt_of_le hv (Nat.pow_le_pow_right (by decide) he))
theorem part_step (T s : Nat) (hs : s < 256) : (tell (part_ T (s + 1)) 4).set (s / 64) (2 * part_ T (s + 1) (s / 64) + T / 2 ^ s % 2) = tell (part_ T s) 4 := by
  rw [tell_set]
  refine tell_congr fun i hi => ?_
  by_cases hij : i = s / 64
  · rw [if_pos hij]
    have hb := bit_word T i (s % 64) (by omega)
    rw [show 64 * i + s % 64 = s by omega] at hb
    subst hij
    unfold part_
    rw [show s + 1 - 64 * (s / 64) = s % 64 + 1 by omega, show s - 64 * (s / 64) = s % 64 by omega, ← hb, Nat.pow_succ 2 (s % 64), ← Nat.div_div_eq_div_mul]
    omega
  · rw [if_neg hij]
    unfold part_
    have hv := dgt_lt (B := 2 ^ 64) (by decide) T i
    by_cases hlt : i < s / 64
    · rw [div_pow_zero hv (by omega), div_pow_zero hv (by omega)]
    · rw [show s + 1 - 64 * i = 0 by omega, show s - 64 * i = 0 by omega]
theorem part_top (T : Nat) : tell (part_ T 256) 4 = zeros 4 := by
  have : tell (part_ T 256) 4 = tell (fun _ => 0) 4 := tell_congr fun i hi => div_pow_zero (dgt_lt (by decide) T i) (by omega)
  rw [this]; rfl
theorem part_zero (T : Nat) : tell (part_ T 0) 4 = wds 4 T := tell_congr fun i hi => by unfold part_; simp
theorem part_lt (T s j : Nat) : part_ T s j < 2 ^ 64 := Nat.lt_of_le_of_lt (Nat.div_le_self _ _) (dgt_lt (by decide) T j)
theorem four_of (l : List Nat) (h : l.length = 4) : ∃ a b c d, l = [a, b, c, d] := by
  match l, h with
  | [a, b, c, d], _ => exact ⟨a, b, c, d, rfl⟩
set_option maxRecDepth 100000 in
set_option maxHeartbeats 1600000 in
theorem Shifted_any (x T : Nat) (up : Int) (w : World) (h0 : -256 ≤ up) (h1 : up ≤ 256) (hT : ∀ i : Nat, i < 256 → T / 2 ^ i % 2 = bitZ x ((i : Int) - up)) :
    Calls Try.prog 42 #[.agg (natsV .u64 (wds 4 x)).toArray, .int .i64 up] w fun e w' => e = .returned (.agg (natsV .u64 (wds 4 T)).toArray) ∧ Below w.heap.size w w' := by
  have HB := Lib.hid (fun (n : Int) (w : World) (h0 : -9223372036854775808 ≤ n) (h1 : n < 9223372036854775808) => refBit_any x n w h0 h1)
  have HT := Lib.hid hT
  have LS := Lib.hid (wds_len 4 T)
  have HP := Lib.hid (part_top T)
  have HZ := Lib.hid (part_zero T)
  have LA := Lib.hid (wds_len 4 x)
  clear hT
  generalize wds 4 T = ls at *
  generalize wds 4 x = la at *
  obtain ⟨x0, x1, x2, x3, hla⟩ := four_of la LA.out
  subst hla
  clear LA
  have B1 := Lib.hid (((Blk.new w 25 (natsV .u64 [x0, x1, x2, x3])).alloc (.cells (natsV .u64 (zeros 4)).toArray 25)).alloc (.cells (natsV .u64 (zeros 4)).toArray 25))
  have B2 := Lib.hid ((Blk.new2 w (.cells (natsV .u64 [x0, x1, x2, x3]).toArray 25) 25 (natsV .u64 (zeros 4))).alloc (.cells (natsV .u64 (zeros 4)).toArray 25))
  have B3 := Lib.hid (Blk.new3 w (.cells (natsV .u64 [x0, x1, x2, x3]).toArray 25) (.cells (natsV .u64 (zeros 4)).toArray 25) 25 (natsV .u64 (zeros 4)))
  have BEL := Lib.hid ((((Below.refl w.heap.size w).alloc (Nat.le_refl _) (.cells (natsV .u64 [x0, x1, x2, x3]).toArray 25)).alloc (by simp) (.cells (natsV .u64 (zeros 4)).toArray 25)).alloc (by simp; omega) (.cells (natsV .u64 (zeros 4)).toArray 25))
  go_enter Try.func42, Try.ntmps42
  go_wp2_with fail
  go_loopw [6] (fun i wr => ∃ s : Nat, s ≤ 256 ∧ i = .int .i64 ((s : Int) - 1) ∧ Blk wr w.heap.size 25 (natsV .u64 [x0, x1, x2, x3]) ∧ Blk wr (w.heap.size + 1) 25 (natsV .u64 (zeros 4)) ∧ Blk wr (w.heap.size + 1 + 1) 25 (natsV .u64 (tell (part_ T s) 4)) ∧ Below w.heap.size w wr) (fun i _ => (intOf i + 1).toNat)
  case atStart => exact ⟨256, by omega, rfl, B1.out, B2.out, by rw [HP.out]; exact B3.out, BEL.out⟩
  case round =>
    clear B1 B2 B3 BEL HP
    obtain ⟨s, hs, rfl, k1, k2, k3, hbel⟩ := hrel
    have K1 := Lib.hid k1
    have K2 := Lib.hid k2
    have K3 := Lib.hid k3
    clear k1 k2 k3
    rcases s with _ | s
    · rw [show ((0 : Nat) : Int) - 1 = -1 from rfl]
      rw [HZ.out] at K3
      have j2 := K2.out.setRow (natsV .u64 ls)
      have hb2 := below_setRow' hbel (show w.heap.size ≤ w.heap.size + 1 by omega) (natsV .u64 ls).toArray
      go_wp2_with (first | (refine ld25 rfl (.tmp 5) rfl (w.heap.size + 1 + 1) rfl ls K3.out LS.out ?_) | (refine st25 rfl (.tmp 4) (.tmp 26) rfl (w.heap.size + 1) rfl ls rfl LS.out (zeros 4) K2.out rfl ?_))
      refine bodyPost_ret (v := .agg (natsV .u64 ls).toArray) ?_ rfl ⟨rfl, hb2⟩
      exact ret25 Try.results42 _ _ (w.heap.size + 1) ls rfl j2 LS.out
    · rw [show ((s + 1 : Nat) : Int) - 1 = (s : Int) by omega]
      as_aux_lemma =>
      have hs1 : s < 256 := by omega
      have hsi : (s : Int) < 256 := by omega
      obtain ⟨j, hj⟩ : ∃ j, j = s / 64 := ⟨_, rfl⟩
      have hj4 : j < 4 := by omega
      have hji : (j : Int) < 4 := by omega
      have e1 : (s : Int) / 64 = (j : Int) := by omega
      have e1w : IntKind.i64.wrap (j : Int) = (j : Int) := IntWalk.i64_in _ (by omega)
      have HSET := Lib.hid (part_step T s hs1)
      rw [← hj, HT.out s hs1] at HSET
      have hbl := bitZ_le x ((s : Int) - up)
      have HC := Lib.hid (fun w => HB.out ((s : Int) - up) w (by omega) (by omega))
      have c3 := K3.out.nat j (by rw [tell_length]; exact hj4)
      rw [tell_getD _ _ _ hj4] at c3
      have HPL := part_lt T (s + 1) j
      have HPH : part_ T (s + 1) j < 2 ^ 63 := by
        unfold part_
        have h1 := dgt_lt (B := 2 ^ 64) (by decide) T j
        rw [Nat.div_lt_iff_lt_mul (Nat.two_pow_pos _), ← Nat.pow_add]
        exact Nat.lt_of_lt_of_le h1 (Nat.pow_le_pow_right (by decide) (by omega))
      have hf := K3.out.free j
      obtain ⟨z, hz⟩ : ∃ z : Int, z = (s : Int) - up := ⟨_, rfl⟩
      rw [← hz] at HC HSET hbl
      have e2 : IntKind.i64.wrap ((s : Int) - up) = z := by rw [IntWalk.i64_in _ (by omega)]; omega
      generalize bitZ x z = bz at *
      obtain ⟨pv, hpv⟩ : ∃ pv, pv = part_ T (s + 1) j := ⟨_, rfl⟩
      rw [← hpv] at HSET c3 HPL HPH
      have HPV := Lib.hid hpv
      clear hpv
      obtain ⟨A, hA⟩ : ∃ A, A = 2 * pv := ⟨_, rfl⟩
      obtain ⟨nv, hnv⟩ : ∃ nv, nv = A + bz := ⟨_, rfl⟩
      rw [← hA, ← hnv] at HSET
      have rA : IntKind.u64.wrap (2 * (pv : Int)) = (A : Int) := by rw [IntKind.wrap_u64]; omega
      have rC : IntKind.u64.wrap ((A : Int) + (bz : Int)) = (nv : Int) := by rw [IntKind.wrap_u64]; omega
      have rD : IntKind.u64.wrap (bz : Int) = (bz : Int) := by rw [IntKind.wrap_u64]; omega
      clear hA hnv hz hj
      have u25 := Try.underlying25
      have i25 : (Try.prog.info? 25).map (·.size) = some (natsV .u64 [x0, x1, x2, x3]).length := by rw [info25]; rfl
      go_wp2_with fail
      refine wp_region_held_drew (S := (fun w' => w'.rangeAt w.heap.size 0 (natsV .u64 [x0, x1, x2, x3]))) (by kernel_rfl) (blk_range K1.out.drew) (fun hHeld => ?_)
      refine wpAnyH_take (i := 0) (oi := _) (v := _) rfl (by kernel_rfl) (by kernel_rfl) (by kernel_rfl) (fun _ _ _ h => h) (Or.inl ⟨by rfl, by intro w hSw; (try dsimp only at hSw); go_simp; first | done | with_reducible rfl⟩) hHeld ?_
      try simp only [Act.put, List.getElem_toArray, List.getElem_cons_succ, List.getElem_cons_zero, List.setIfInBounds_toArray, List.set_cons_zero, List.set_cons_succ]
      refine wpAnyH_take (i := 1) (oi := _) (v := _) rfl (by kernel_rfl) (by kernel_rfl) (by kernel_rfl) (fun _ _ _ h => h) (Or.inl ⟨by rfl, by intro w hSw; (try dsimp only at hSw); go_simp; first | done | with_reducible rfl⟩) hHeld ?_
      try simp only [Act.put, List.getElem_toArray, List.getElem_cons_succ, List.getElem_cons_zero, List.setIfInBounds_toArray, List.set_cons_zero, List.set_cons_succ]
      refine wpAnyH_take (i := 2) (oi := _) (v := _) rfl (by kernel_rfl) (by kernel_rfl) (by kernel_rfl) (fun _ _ _ h => h) (Or.inl ⟨by rfl, by intro w hSw; (try dsimp only at hSw); go_simp; first | done | with_reducible rfl⟩) hHeld ?_
      try simp only [Act.put, List.getElem_toArray, List.getElem_cons_succ, List.getElem_cons_zero, List.setIfInBounds_toArray, List.set_cons_zero, List.set_cons_succ]
      refine wpAnyH_take (i := 3) (oi := _) (v := _) rfl (by kernel_rfl) (by kernel_rfl) (by kernel_rfl) (fun _ _ _ h => h) (Or.inl ⟨by rfl, by intro w hSw; (try dsimp only at hSw); go_simp; first | done | with_reducible rfl⟩) hHeld ?_
      try simp only [Act.put, List.getElem_toArray, List.getElem_cons_succ, List.getElem_cons_zero, List.setIfInBounds_toArray, List.set_cons_zero, List.set_cons_succ]
      refine wpAnyH_take (i := 4) (oi := _) (v := _) rfl (by kernel_rfl) (by kernel_rfl) (by kernel_rfl) (fun _ _ _ h => h) (Or.inl ⟨by rfl, by intro w hSw; (try dsimp only at hSw); go_simp; first | done | with_reducible rfl⟩) hHeld ?_
      try simp only [Act.put, List.getElem_toArray, List.getElem_cons_succ, List.getElem_cons_zero, List.setIfInBounds_toArray, List.set_cons_zero, List.set_cons_succ]
      refine wpAnyH_take (i := 8) (oi := _) (v := _) rfl (by kernel_rfl) (by kernel_rfl) (by kernel_rfl) (fun _ _ _ h => h) (Or.inl ⟨by rfl, by intro w hSw; (try dsimp only at hSw); go_simp; first | done | with_reducible rfl⟩) hHeld ?_
      try simp only [Act.put, List.getElem_toArray, List.getElem_cons_succ, List.getElem_cons_zero, List.setIfInBounds_toArray, List.set_cons_zero, List.set_cons_succ]
      refine wpAnyH_take (i := 9) (oi := _) (v := _) rfl (by kernel_rfl) (by kernel_rfl) (by kernel_rfl) (fun _ _ _ h => h) (Or.inl ⟨by rfl, by intro w hSw; (try dsimp only at hSw); go_simp; first | done | with_reducible rfl⟩) hHeld ?_
      try simp only [Act.put, List.getElem_toArray, List.getElem_cons_succ, List.getElem_cons_zero, List.setIfInBounds_toArray, List.set_cons_zero, List.set_cons_succ]
      refine wpAnyH_take (i := 10) (oi := _) (v := _) rfl (by kernel_rfl) (by kernel_rfl) (by kernel_rfl) (fun _ _ _ h => h) (Or.inl ⟨by rfl, by intro w hSw; (try dsimp only at hSw); go_simp; first | done | with_reducible rfl⟩) hHeld ?_
      try simp only [Act.put, List.getElem_toArray, List.getElem_cons_succ, List.getElem_cons_zero, List.setIfInBounds_toArray, List.set_cons_zero, List.set_cons_succ]
      refine wpAnyH_take (i := 7) (oi := _) (v := _) rfl (by kernel_rfl) (by kernel_rfl) (by kernel_rfl) (fun _ _ _ h => h) (yieldsIf_load_mid (by rfl) _ _ rfl _ _ rfl _ _ (by intro w hSw; exact hSw) u25 rfl i25) hHeld ?_
      try simp only [Act.put, List.getElem_toArray, List.getElem_cons_succ, List.getElem_cons_zero, List.setIfInBounds_toArray, List.set_cons_zero, List.set_cons_succ]
      refine wpAnyH_ready (rs := [5, 11]) (by kernel_rfl) (by simp) ?_
      refine AllReadyH.cons (o := _) rfl (fun K hK => ?_) (AllReadyH.cons (o := _) rfl (fun K hK => ?_) AllReadyH.nil)
      · go_simp
        refine hK.out _ _ hHeld (fun _ => ?_)
        clear hK K
        try simp only [Act.put, List.getElem_toArray, List.getElem_cons_succ, List.getElem_cons_zero, List.setIfInBounds_toArray, List.set_cons_zero, List.set_cons_succ]
        refine wpAnyH_take (i := 6) (oi := _) (v := _) rfl (by kernel_rfl) (by kernel_rfl) (by kernel_rfl) (fun _ _ _ h => h) (Or.inl ⟨by rfl, by intro w hSw; (try dsimp only at hSw); go_simp; first | done | with_reducible rfl⟩) hHeld ?_
        try simp only [Act.put, List.getElem_toArray, List.getElem_cons_succ, List.getElem_cons_zero, List.setIfInBounds_toArray, List.set_cons_zero, List.set_cons_succ]
        refine wpAnyH_ready (rs := [11]) (by kernel_rfl) (by simp) ?_
        refine AllReadyH.cons (o := _) rfl (fun K hK => ?_) AllReadyH.nil
        go_simp
        go_at_call 17
        refine (HC.out _).mono ?_
        rintro e wx1 ⟨rfl, hbx1⟩
        refine hK.out _ _ (range_keep hHeld hbx1) (fun hHeld2 => ?_)
        clear hK K hHeld
        have hHeld := hHeld2
        clear hHeld2
        try simp only [Act.put, List.getElem_toArray, List.getElem_cons_succ, List.getElem_cons_zero, List.setIfInBounds_toArray, List.set_cons_zero, List.set_cons_succ]
        have J3 := Lib.hid (K3.out.drew.below' hbx1)
        have c3w := J3.out.nat j (by rw [tell_length]; exact hj4)
        rw [tell_getD _ _ _ hj4, ← HPV.out] at c3w
        have f3w := J3.out.free j
        refine wpAnyH_take (i := 12) (oi := _) (v := _) rfl (by kernel_rfl) (by kernel_rfl) (by kernel_rfl) (fun _ _ _ h => h) (Or.inl ⟨by rfl, by intro w hSw; (try dsimp only at hSw); go_simp; first | done | with_reducible rfl⟩) hHeld ?_
        try simp only [Act.put, List.getElem_toArray, List.getElem_cons_succ, List.getElem_cons_zero, List.setIfInBounds_toArray, List.set_cons_zero, List.set_cons_succ]
        refine wpAnyH_take (i := 13) (oi := _) (v := _) rfl (by kernel_rfl) (by kernel_rfl) (by kernel_rfl) (fun _ _ _ h => h) (Or.inl ⟨by rfl, by intro w hSw; (try dsimp only at hSw); go_simp; first | done | with_reducible rfl⟩) hHeld ?_
        try simp only [Act.put, List.getElem_toArray, List.getElem_cons_succ, List.getElem_cons_zero, List.setIfInBounds_toArray, List.set_cons_zero, List.set_cons_succ]
        refine wpAnyH_take (i := 14) (oi := _) (v := _) rfl (by kernel_rfl) (by kernel_rfl) (by kernel_rfl) (fun _ _ _ h => h) (Or.inl ⟨by rfl, by intro w hSw; (try dsimp only at hSw); go_simp; first | done | with_reducible rfl⟩) hHeld ?_
        try simp only [Act.put, List.getElem_toArray, List.getElem_cons_succ, List.getElem_cons_zero, List.setIfInBounds_toArray, List.set_cons_zero, List.set_cons_succ]
        have hb2 : Below w.heap.size w wx1 := hbel.drew.trans (hbx1.mono (by have := hbel.size; simp; omega))
        have J1 := Lib.hid (K1.out.drew.below' hbx1)
        have J2 := Lib.hid (K2.out.drew.below' hbx1)
        refine wpAnyH_ready (rs := [15]) (by kernel_rfl) (by simp) ?_
        refine AllReadyH.cons (o := _) rfl (fun K hK => ?_) AllReadyH.nil
        go_simp
        refine hK.out _ _ ?_ (fun _ => ?_)
        · exact blk_range (J1.out.other ⟨w.heap.size + 1 + 1, j, none⟩ (.int .u64 (nv : Nat)) (by simp; omega))
        refine wpAnyH_done (by kernel_rfl) ?_ _
        clear hK K c3 c3w f3w hf e1 e1w e2 rA rC rD hbx1
        have n1 := J1.out.other ⟨w.heap.size + 1 + 1, j, none⟩ (.int .u64 (nv : Nat)) (by simp; omega)
        have n2 := J2.out.other ⟨w.heap.size + 1 + 1, j, none⟩ (.int .u64 (nv : Nat)) (by simp)
        have n3 := J3.out.natSet j nv
        have hb3 := hb2.setCell (p := ⟨w.heap.size + 1 + 1, j, none⟩) (by simp; omega) (.int .u64 (nv : Nat))
        rw [HSET.out] at n3
        have N1 := Lib.hid n1
        have N2 := Lib.hid n2
        have N3 := Lib.hid n3
        clear n1 n2 n3 J1 J2 J3 hb2 hHeld
        go_wp2_with fail
        go_roundw
        case rel => exact ⟨s, by omega, rfl, N1.out, N2.out, N3.out, hb3⟩
        case measure => simp [intOf] <;> omega
      · go_simp
        go_at_call 17
        refine (HC.out _).mono ?_
        rintro e wx1 ⟨rfl, hbx1⟩
        refine hK.out _ _ (range_keep hHeld hbx1) (fun hHeld2 => ?_)
        clear hK K hHeld
        have hHeld := hHeld2
        clear hHeld2
        try simp only [Act.put, List.getElem_toArray, List.getElem_cons_succ, List.getElem_cons_zero, List.setIfInBounds_toArray, List.set_cons_zero, List.set_cons_succ]
        have J3 := Lib.hid (K3.out.drew.below' hbx1)
        have c3w := J3.out.nat j (by rw [tell_length]; exact hj4)
        rw [tell_getD _ _ _ hj4, ← HPV.out] at c3w
        have f3w := J3.out.free j
        refine wpAnyH_take (i := 12) (oi := _) (v := _) rfl (by kernel_rfl) (by kernel_rfl) (by kernel_rfl) (fun _ _ _ h => h) (Or.inl ⟨by rfl, by intro w hSw; (try dsimp only at hSw); go_simp; first | done | with_reducible rfl⟩) hHeld ?_
        try simp only [Act.put, List.getElem_toArray, List.getElem_cons_succ, List.getElem_cons_zero, List.setIfInBounds_toArray, List.set_cons_zero, List.set_cons_succ]
        refine wpAnyH_ready (rs := [5]) (by kernel_rfl) (by simp) ?_
        refine AllReadyH.cons (o := _) rfl (fun K hK => ?_) AllReadyH.nil
        go_simp
        refine hK.out _ _ hHeld (fun _ => ?_)
        clear hK K
        try simp only [Act.put, List.getElem_toArray, List.getElem_cons_succ, List.getElem_cons_zero, List.setIfInBounds_toArray, List.set_cons_zero, List.set_cons_succ]
        refine wpAnyH_take (i := 6) (oi := _) (v := _) rfl (by kernel_rfl) (by kernel_rfl) (by kernel_rfl) (fun _ _ _ h => h) (Or.inl ⟨by rfl, by intro w hSw; (try dsimp only at hSw); go_simp; first | done | with_reducible rfl⟩) hHeld ?_
        try simp only [Act.put, List.getElem_toArray, List.getElem_cons_succ, List.getElem_cons_zero, List.setIfInBounds_toArray, List.set_cons_zero, List.set_cons_succ]
        refine wpAnyH_take (i := 13) (oi := _) (v := _) rfl (by kernel_rfl) (by kernel_rfl) (by kernel_rfl) (fun _ _ _ h => h) (Or.inl ⟨by rfl, by intro w hSw; (try dsimp only at hSw); go_simp; first | done | with_reducible rfl⟩) hHeld ?_
        try simp only [Act.put, List.getElem_toArray, List.getElem_cons_succ, List.getElem_cons_zero, List.setIfInBounds_toArray, List.set_cons_zero, List.set_cons_succ]
        refine wpAnyH_take (i := 14) (oi := _) (v := _) rfl (by kernel_rfl) (by kernel_rfl) (by kernel_rfl) (fun _ _ _ h => h) (Or.inl ⟨by rfl, by intro w hSw; (try dsimp only at hSw); go_simp; first | done | with_reducible rfl⟩) hHeld ?_
        try simp only [Act.put, List.getElem_toArray, List.getElem_cons_succ, List.getElem_cons_zero, List.setIfInBounds_toArray, List.set_cons_zero, List.set_cons_succ]
        have hb2 : Below w.heap.size w wx1 := hbel.drew.trans (hbx1.mono (by have := hbel.size; simp; omega))
        have J1 := Lib.hid (K1.out.drew.below' hbx1)
        have J2 := Lib.hid (K2.out.drew.below' hbx1)
        refine wpAnyH_ready (rs := [15]) (by kernel_rfl) (by simp) ?_
        refine AllReadyH.cons (o := _) rfl (fun K hK => ?_) AllReadyH.nil
        go_simp
        refine hK.out _ _ ?_ (fun _ => ?_)
        · exact blk_range (J1.out.other ⟨w.heap.size + 1 + 1, j, none⟩ (.int .u64 (nv : Nat)) (by simp; omega))
        refine wpAnyH_done (by kernel_rfl) ?_ _
        clear hK K c3 c3w f3w hf e1 e1w e2 rA rC rD hbx1
        have n1 := J1.out.other ⟨w.heap.size + 1 + 1, j, none⟩ (.int .u64 (nv : Nat)) (by simp; omega)
        have n2 := J2.out.other ⟨w.heap.size + 1 + 1, j, none⟩ (.int .u64 (nv : Nat)) (by simp)
        have n3 := J3.out.natSet j nv
        have hb3 := hb2.setCell (p := ⟨w.heap.size + 1 + 1, j, none⟩) (by simp; omega) (.int .u64 (nv : Nat))
        rw [HSET.out] at n3
        have N1 := Lib.hid n1
        have N2 := Lib.hid n2
        have N3 := Lib.hid n3
        clear n1 n2 n3 J1 J2 J3 hb2 hHeld
        go_wp2_with fail
        go_roundw
        case rel => exact ⟨s, by omega, rfl, N1.out, N2.out, N3.out, hb3⟩
        case measure => simp [intOf] <;> omega
end Go.Proofs.Ytmibkgdfgaiedaa
