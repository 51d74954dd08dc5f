/- Two numbers are joined. Condition: the lower one has 256 bits. -/
import Derived.Test.YtfffmoolkgheaaaH
import Derived.Test.YtfffmoolkgheaaaW
namespace Go.Proofs.Ytfffmoolkgheaaa
open Go.RowKit
set_option linter.unusedVariables false
set_option linter.unusedSimpArgs false
theorem wds8_join (a b : Nat) (ha : a < 2 ^ 256) : wds 8 (a + 2 ^ 256 * b) = wds 4 a ++ wds 4 b := by
  have h1 : ∀ i, i < 4 → dgt (2 ^ 64) (a + 2 ^ 256 * b) i = dgt (2 ^ 64) a i := by
    intro i hi
    have h : (tell (dgt (2 ^ 64) ((a + 2 ^ 256 * b) % (2 ^ 64) ^ 4)) 4).getD i 0 = (tell (dgt (2 ^ 64) (a + 2 ^ 256 * b)) 4).getD i 0 := by rw [tell_mod (2 ^ 64) (a + 2 ^ 256 * b) 4 4 (Nat.le_refl _)]
    rw [tell_getD _ _ _ hi, tell_getD _ _ _ hi, show (2 ^ 64) ^ 4 = 2 ^ 256 from by rw [← Nat.pow_mul], Nat.add_mul_mod_self_left, Nat.mod_eq_of_lt ha] at h
    exact h.symm
  have h2 : ∀ i, dgt (2 ^ 64) (a + 2 ^ 256 * b) (4 + i) = dgt (2 ^ 64) b i := by
    intro i
    unfold dgt
    have e : (a + 2 ^ 256 * b) / (2 ^ 64) ^ 4 = b := by
      rw [show (2 ^ 64) ^ 4 = 2 ^ 256 from by rw [← Nat.pow_mul], Nat.add_mul_div_left _ _ (Nat.two_pow_pos 256), Nat.div_eq_of_lt ha, Nat.zero_add]
    rw [Nat.pow_add, ← Nat.div_div_eq_div_mul, e]
  show [_, _, _, _, _, _, _, _] = [_, _, _, _] ++ [_, _, _, _]
  simp only [List.cons_append, List.nil_append, List.cons.injEq, and_true]
  exact ⟨h1 0 (by decide), h1 1 (by decide), h1 2 (by decide), h1 3 (by decide), h2 0, h2 1, h2 2, h2 3⟩
theorem sp0 (la : List Nat) (h : la.length = 4) : splice (natsV .u64 (zeros 8)) 0 (natsV .u64 la) = natsV .u64 (la ++ zeros 4) := by
  match la, h with
  | [a, b, c, d], _ => rfl
theorem sp4 (la lb : List Nat) (h : la.length = 4) (h2 : lb.length = 4) : splice (natsV .u64 (la ++ zeros 4)) 4 (natsV .u64 lb) = natsV .u64 (la ++ lb) := by
  match la, lb, h, h2 with
  | [a, b, c, d], [e, f, g, i], _, _ => rfl
theorem src_of {w : World} {g t : Nat} {l : List Nat} (h : Blk w g t (natsV .u64 l)) (n : Nat) : ∀ j v, (natsV .u64 l)[j]? = some v → w.cell? ((⟨g, 0, none⟩ : Addr).add j) = some v := by
  intro j v hv
  rcases j with _ | j
  · have := h.cell 0; rw [hv] at this; simpa [Addr.add] using this
  · have := h.cell (j + 1); rw [hv] at this; simpa [Addr.add] using this
set_option maxRecDepth 100000 in
set_option maxHeartbeats 800000 in
theorem join_any (a b : Nat) (w : World) (ha : a < 2 ^ 256) :
    Calls Try.prog 123 #[.agg (natsV .u64 (wds 4 a)).toArray, .agg (natsV .u64 (wds 4 b)).toArray] w fun e w' => e = .returned (.agg (natsV .u64 (wds 8 (a + 2 ^ 256 * b))).toArray) ∧ Below w.heap.size w w' := by
  rw [wds8_join a b ha]
  have LA := Lib.hid (wds_len 4 a)
  have LB := Lib.hid (wds_len 4 b)
  clear ha
  generalize wds 4 a = la at *
  generalize wds 4 b = lb at *
  have NA := Lib.hid (show (natsV .u64 la).length = Nat.min 4 8 by rw [natsV_length, LA.out]; rfl)
  have NB := Lib.hid (show (natsV .u64 lb).length = Nat.min 4 4 by rw [natsV_length, LB.out]; rfl)
  have FA := Lib.hid (show 0 + (natsV .u64 la).length ≤ (natsV .u64 (zeros 8)).length by rw [natsV_length, LA.out]; decide)
  have FB := Lib.hid (show 4 + (natsV .u64 lb).length ≤ (natsV .u64 (la ++ zeros 4)).length by rw [natsV_length, natsV_length, List.length_append, LB.out, LA.out]; decide)
  have L8 := Lib.hid (show (la ++ lb).length = 8 by rw [List.length_append, LA.out, LB.out])
  have S0 := Lib.hid (sp0 la LA.out)
  have S4 := Lib.hid (sp4 la lb LA.out LB.out)
  obtain ⟨ls, hls⟩ : ∃ ls, ls = la ++ lb := ⟨_, rfl⟩
  rw [← hls] at S4 L8 ⊢
  clear hls
  have B1 := Lib.hid ((((Blk.new w 24 (natsV .u64 la)).alloc (.cells (natsV .u64 lb).toArray 24)).alloc (.cells (natsV .u64 (zeros 8)).toArray 26)).alloc (.cells (natsV .u64 (zeros 8)).toArray 26))
  have B2 := Lib.hid (((Blk.new2 w (.cells (natsV .u64 la).toArray 24) 24 (natsV .u64 lb)).alloc (.cells (natsV .u64 (zeros 8)).toArray 26)).alloc (.cells (natsV .u64 (zeros 8)).toArray 26))
  have B3 := Lib.hid ((Blk.new3 w (.cells (natsV .u64 la).toArray 24) (.cells (natsV .u64 lb).toArray 24) 26 (natsV .u64 (zeros 8))).alloc (.cells (natsV .u64 (zeros 8)).toArray 26))
  have B4 := Lib.hid (Blk.new4 w (.cells (natsV .u64 la).toArray 24) (.cells (natsV .u64 lb).toArray 24) (.cells (natsV .u64 (zeros 8)).toArray 26) 26 (natsV .u64 (zeros 8)))
  have BEL := Lib.hid (((((Below.refl w.heap.size w).alloc (Nat.le_refl _) (.cells (natsV .u64 la).toArray 24)).alloc (by simp) (.cells (natsV .u64 lb).toArray 24)).alloc (by simp; omega) (.cells (natsV .u64 (zeros 8)).toArray 26)).alloc (by simp; omega) (.cells (natsV .u64 (zeros 8)).toArray 26))
  go_enter Try.func123, Try.ntmps123
  go_wp2_with fail
  refine wp_region_held_drew (S := (fun w' => True)) (by kernel_rfl) trivial (fun hHeld => ?_)
  refine wpAnyH_take (i := 0) (oi := _) (v := _) rfl (by kernel_rfl) (by kernel_rfl) (by kernel_rfl) (fun _ _ _ h => h) (Or.inl ⟨by rfl, by intro w hSw; (try dsimp only at hSw); go_simp; first | done | with_reducible rfl⟩) hHeld ?_
  try simp only [Act.put, List.getElem_toArray, List.getElem_cons_succ, List.getElem_cons_zero, List.setIfInBounds_toArray, List.set_cons_zero, List.set_cons_succ]
  refine wpAnyH_take (i := 1) (oi := _) (v := _) rfl (by kernel_rfl) (by kernel_rfl) (by kernel_rfl) (fun _ _ _ h => h) (Or.inl ⟨by rfl, by intro w hSw; (try dsimp only at hSw); go_simp; first | done | with_reducible rfl⟩) hHeld ?_
  try simp only [Act.put, List.getElem_toArray, List.getElem_cons_succ, List.getElem_cons_zero, List.setIfInBounds_toArray, List.set_cons_zero, List.set_cons_succ]
  refine wpAnyH_ready (rs := [2]) (by kernel_rfl) (by simp) ?_
  refine AllReadyH.cons (o := _) rfl (fun K hK => ?_) AllReadyH.nil
  refine step_copy_splice rfl (.tmp 6) (.tmp 7) 76 76 rfl 22 Try.underlying76 info22 (some ⟨w.heap.size + 1 + 1 + 1, 0, none⟩) (some ⟨w.heap.size, 0, none⟩) 8 8 4 4 rfl rfl (w.heap.size + 1 + 1 + 1) 0 (natsV .u64 (zeros 8)) 26 B4.out.drew (natsV .u64 la) NA.out (fun _ => ⟨rfl, _, rfl, src_of B1.out.drew 0⟩) FA.out (natsV_one _ _) (w.heap.size + 1 + 1 + 1) _ (Below.refl _ _) (Nat.le_refl _) ?_
  intro w4 hg4 hb4
  refine hK.out _ _ trivial (fun _ => ?_)
  clear hK K hHeld
  refine wpAnyH_done (by kernel_rfl) ?_ _
  have C4 := Lib.hid (show Blk w4 (w.heap.size + 1 + 1 + 1) 26 (natsV .u64 (la ++ zeros 4)) from by rw [← S0.out]; exact hg4.out)
  have C2 := Lib.hid (B2.out.drew.below hb4 (by omega))
  have C3 := Lib.hid (B3.out.drew.below hb4 (by omega))
  have bel4 := BEL.out.drew.trans (hb4.mono (by omega))
  clear hg4 hb4 B1 B2 B3 B4 BEL
  go_wp2_with fail
  refine wp_region_held_drew (S := (fun w' => True)) (by kernel_rfl) trivial (fun hHeld => ?_)
  refine wpAnyH_take (i := 0) (oi := _) (v := _) rfl (by kernel_rfl) (by kernel_rfl) (by kernel_rfl) (fun _ _ _ h => h) (Or.inl ⟨by rfl, by intro w hSw; (try dsimp only at hSw); go_simp; first | done | with_reducible rfl⟩) hHeld ?_
  try simp only [Act.put, List.getElem_toArray, List.getElem_cons_succ, List.getElem_cons_zero, List.setIfInBounds_toArray, List.set_cons_zero, List.set_cons_succ]
  refine wpAnyH_take (i := 1) (oi := _) (v := _) rfl (by kernel_rfl) (by kernel_rfl) (by kernel_rfl) (fun _ _ _ h => h) (Or.inl ⟨by rfl, by intro w hSw; (try dsimp only at hSw); go_simp; first | done | with_reducible rfl⟩) hHeld ?_
  try simp only [Act.put, List.getElem_toArray, List.getElem_cons_succ, List.getElem_cons_zero, List.setIfInBounds_toArray, List.set_cons_zero, List.set_cons_succ]
  refine wpAnyH_ready (rs := [2]) (by kernel_rfl) (by simp) ?_
  refine AllReadyH.cons (o := _) rfl (fun K hK => ?_) AllReadyH.nil
  refine step_copy_splice rfl (.tmp 9) (.tmp 10) 76 76 rfl 22 Try.underlying76 info22 (some ⟨w.heap.size + 1 + 1 + 1, 4, none⟩) (some ⟨(w.heap.size + 1), 0, none⟩) 4 4 4 4 rfl rfl (w.heap.size + 1 + 1 + 1) 4 (natsV .u64 (la ++ zeros 4)) 26 C4.out.drew (natsV .u64 lb) NB.out (fun _ => ⟨rfl, _, rfl, src_of C2.out.drew 0⟩) FB.out (natsV_one _ _) (w.heap.size + 1 + 1 + 1) _ (Below.refl _ _) (Nat.le_refl _) ?_
  intro w5 hg5 hb5
  refine hK.out _ _ trivial (fun _ => ?_)
  clear hK K hHeld
  refine wpAnyH_done (by kernel_rfl) ?_ _
  have D4 := Lib.hid (show Blk w5 (w.heap.size + 1 + 1 + 1) 26 (natsV .u64 ls) from by rw [← S4.out]; exact hg5.out)
  have D3 := Lib.hid (C3.out.drew.below hb5 (by omega))
  have bel5 := bel4.drew.trans (hb5.mono (by omega))
  clear hg5 hb5 C2 C3 C4 bel4
  have j2 := D3.out.setRow (natsV .u64 ls)
  have hb2 := below_setRow' bel5 (show w.heap.size ≤ w.heap.size + 1 + 1 by omega) (natsV .u64 ls).toArray
  go_wp2_with (first | (refine ld26 rfl (.tmp 5) rfl (w.heap.size + 1 + 1 + 1) rfl ls D4.out L8.out ?_) | (refine st26 rfl (.tmp 4) (.tmp 12) rfl (w.heap.size + 1 + 1) rfl ls rfl L8.out (zeros 8) D3.out rfl ?_))
  refine bodyPost_ret (v := .agg (natsV .u64 ls).toArray) ?_ rfl ⟨rfl, hb2⟩
  exact results_cell_row Try.results123 _ _ (w.heap.size + 1 + 1) 26 _ (0, 0) _ rfl j2 Try.underlying26 rfl (by rw [info26, size_nats, L8.out])
end Go.Proofs.Ytfffmoolkgheaaa
