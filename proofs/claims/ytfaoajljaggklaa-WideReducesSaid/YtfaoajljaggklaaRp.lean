/- The project's rest of a number of any length. Condition: what a list may take. -/
import Derived.Test.YtfaoajljaggklaaDv
import Derived.Test.YtfaoajljaggklaaAw
import Derived.Test.YtfaoajljaggklaaOb
import Derived.Test.YtfaoajljaggklaaKf
namespace Go.Proofs.Ytfaoajljaggklaa
open Go.RowKit
set_option linter.unusedVariables false
set_option linter.unusedSimpArgs false
theorem be_from (b : List Nat) : ∀ v, b.foldl (fun v x => v * 256 + x) v = v * 256 ^ b.length + be b := by
  induction b with
  | nil => intro v; simp [be]
  | cons x b ih =>
    intro v
    have e : be (x :: b) = x * 256 ^ b.length + be b := by
      show (x :: b).foldl (fun v x => v * 256 + x) 0 = _
      rw [List.foldl_cons, ih]; simp
    rw [List.foldl_cons, ih, e, List.length_cons, Nat.pow_succ, Nat.add_mul, Nat.mul_assoc, Nat.mul_comm 256, Nat.add_assoc]
theorem be_app (a b : List Nat) : be (a ++ b) = be a * 256 ^ b.length + be b := by
  show (a ++ b).foldl (fun v x => v * 256 + x) 0 = _
  rw [List.foldl_append, be_from]; rfl
/-- l' is what is left of l, r the rest of what was taken -/
def RdI (m : Nat) (l l' : List Nat) (r : Nat) : Prop := ∃ pre, l = pre ++ l' ∧ r = be pre % m ∧ (pre = [] ∨ l'.length % 32 = 0)
theorem RdI.step {m : Nat} {l l' : List Nat} {r p : Nat} (h : RdI m l l' r) (hL : 0 < l'.length) (hp : p = (l'.length - 1) % 32 + 1) : RdI m l (l'.drop p) ((be (l'.take p) + 2 ^ 256 * r) % m) := by
  obtain ⟨pre, e1, e2, e3⟩ := h
  refine ⟨pre ++ l'.take p, by rw [List.append_assoc, List.take_append_drop]; exact e1, ?_, Or.inr (by rw [List.length_drop]; omega)⟩
  rw [be_app, e2]
  rcases e3 with rfl | e3
  · simp [be]
  · have hp32 : p = 32 := by omega
    rw [List.length_take, show min p l'.length = 32 by omega, show (256 : Nat) ^ 32 = 2 ^ 256 by rw [show (256 : Nat) = 2 ^ 8 from rfl, ← Nat.pow_mul]]
    rw [Nat.add_comm, Nat.add_mod, Nat.mul_mod, Nat.mod_mod, ← Nat.mul_mod, ← Nat.add_mod, Nat.mul_comm]
theorem RdI.done {m : Nat} {l : List Nat} {r : Nat} (h : RdI m l [] r) : r = be l % m := by
  obtain ⟨pre, e1, e2, _⟩ := h
  rw [e1, List.append_nil]; exact e2
theorem RdI.start (m : Nat) (l : List Nat) : RdI m l l 0 := ⟨[], rfl, by simp [be], Or.inl rfl⟩
theorem be_lt256 (l : List Nat) (h : ∀ x ∈ l, x < 256) (hn : l.length ≤ 32) : be l < 2 ^ 256 := by
  have := be_lt l h
  have h2 : 256 ^ l.length ≤ 256 ^ 32 := Nat.pow_le_pow_right (by decide) hn
  have h3 : (256 : Nat) ^ 32 = 2 ^ 256 := by rw [show (256 : Nat) = 2 ^ 8 from rfl, ← Nat.pow_mul]
  omega
set_option maxRecDepth 100000 in
set_option maxHeartbeats 800000 in
theorem Reduce_any (A : Option Addr) (n c m : Nat) (l : List Nat) (w : World) (h : BIn w A n c l) (hm : m < 2 ^ 256) (h0 : m ≠ 0) :
    Calls Try.prog 16 #[.slice A n c, .agg (natsV .u64 (wds 4 m)).toArray] w fun e w' => e = .returned (.tuple #[.agg (natsV .u64 (wds 4 (be l % m))).toArray, .int .i64 0]) ∧ Below w.heap.size w w' := by
  have Q := Lib.hid (fun w => eqZ m hm w)
  rw [decide_eq_false h0] at Q
  have HIN := Lib.hid h
  clear h
  have HDV := Lib.hid (fun (L r : Nat) (hL : L < 2 ^ 256) (hr : r < m) w => divide_any L r m w hL (Nat.lt_trans hr hm) hm h0)
  have hm0 : 0 < m := Nat.pos_of_ne_zero h0
  have LM := Lib.hid (wds_len 4 m)
  have LX := Lib.hid (fun v => wds_len 4 v)
  obtain ⟨lm, hlm⟩ : ∃ l, l = wds 4 m := ⟨_, rfl⟩
  rw [← hlm] at HDV LM Q ⊢
  clear hlm h0
  have i24m : (Try.prog.info? 24).map (·.size) = some (natsV .u64 lm).length := by rw [info24, natsV_length, LM.out]
  have B1 := Lib.hid (((Blk.new w 24 (natsV .u64 lm)).alloc (.cells (natsV .u64 (zeros 4)).toArray 24)).alloc (.cells (natsV .u64 (zeros 4)).toArray 24))
  have B2 := Lib.hid ((Blk.new2 w (.cells (natsV .u64 lm).toArray 24) 24 (natsV .u64 (zeros 4))).alloc (.cells (natsV .u64 (zeros 4)).toArray 24))
  have B3 := Lib.hid (Blk.new3 w (.cells (natsV .u64 lm).toArray 24) (.cells (natsV .u64 (zeros 4)).toArray 24) 24 (natsV .u64 (zeros 4)))
  have BEL := Lib.hid ((((Below.refl w.heap.size w).alloc (Nat.le_refl _) (.cells (natsV .u64 lm).toArray 24)).alloc (by simp) (.cells (natsV .u64 (zeros 4)).toArray 24)).alloc (by simp; omega) (.cells (natsV .u64 (zeros 4)).toArray 24))
  have B1a := Lib.hid ((Blk.new w 24 (natsV .u64 lm)).alloc (.cells (natsV .u64 (zeros 4)).toArray 24))
  have q := Q.out
  go_enter Try.func16, Try.ntmps16
  go_wp2_with (refine ld24 rfl (.tmp 3) rfl w.heap.size rfl lm B1a.out LM.out ?_)
  clear q Q B1a
  go_loopw [0] (fun s wr => ∃ A' n' c' l' r, BIn w A' n' c' l' ∧ RdI m l l' r ∧ r < m ∧ s = .slice A' n' c' ∧ Blk wr w.heap.size 24 (natsV .u64 lm) ∧ Blk wr (w.heap.size + 1) 24 (natsV .u64 (zeros 4)) ∧ Blk wr (w.heap.size + 1 + 1) 24 (natsV .u64 (wds 4 r)) ∧ Below w.heap.size w wr) (fun s _ => match s with | .slice _ n _ => n | _ => 0)
  case atStart => exact ⟨A, n, c, l, 0, HIN.out, RdI.start m l, hm0, rfl, B1.out, B2.out, by rw [num_zero]; exact B3.out, BEL.out⟩
  case round =>
    clear B1 B2 B3 BEL HIN
    obtain ⟨A', n', c', l', r, hin, hrd, hr, rfl, k1, k2, k3, hbel⟩ := hrel
    have K1 := Lib.hid k1
    have K2 := Lib.hid k2
    have K3 := Lib.hid k3
    have HIN := Lib.hid hin
    have HRD := Lib.hid hrd
    have hll := hin.1.1
    have hl256 := Lib.hid hin.1.2.2.1
    have hnc := hin.2.1
    have hcm := hin.2.2.1
    have hn47 := hin.2.2.2.1
    clear k1 k2 k3 hin hrd
    have hLr := LX.out r
    by_cases h5 : 0 < n'
    · as_aux_lemma =>
      obtain ⟨b, off, rfl, _⟩ := HIN.out.1.2.2.2.resolve_left (by omega)
      have hni : (0 : Int) < (n' : Int) := by omega
      obtain ⟨p, hp⟩ : ∃ p, p = (n' - 1) % 32 + 1 := ⟨_, rfl⟩
      have hpn : p ≤ n' := by omega
      have hp32 : p ≤ 32 := by omega
      have hp1 : 1 ≤ p := by omega
      obtain ⟨k1, hk1⟩ : ∃ k, k = n' - 1 := ⟨_, rfl⟩
      obtain ⟨q1, hq1⟩ : ∃ q, q = k1 % 32 := ⟨_, rfl⟩
      have e1 : IntKind.i64.wrap ((n' : Int) - 1) = (k1 : Int) := by rw [IntWalk.i64_in _ (by omega)]; omega
      have e1b : ((n' : Int) - 1) = (k1 : Int) := by omega
      have e2b : (k1 : Int) % 32 = (q1 : Int) := by omega
      have e2 : ((k1 : Int)).tmod 32 = (q1 : Int) := (Int.tmod_eq_emod_of_nonneg (by omega)).trans e2b
      have e3 : (q1 : Int) + 1 = (p : Int) := by omega
      have hpci : (p : Int) ≤ (c' : Int) := by omega
      have hp0i : (0 : Int) ≤ (p : Int) := by omega
      have HD := Lib.hid (bin_head HIN.out hpn h5)
      have HTL := Lib.hid (fun A hA => bin_drop HIN.out hpn h5 A hA)
      have HST := Lib.hid (HRD.out.step (p := p) (by rw [hll]; exact h5) (by rw [hll]; exact hp))
      have hpl : be (l'.take p) < 2 ^ 256 := be_lt256 _ (fun x hx => hl256.out x (List.mem_of_mem_take hx)) (by rw [List.length_take]; omega)
      have HC1 := Lib.hid (fun (W : World) (hb : Below w.heap.size w W) => numberOf_any (some ⟨b, off, none⟩) p c' (l'.take p) W hp32 (HD.out.below hb))
      have HC2 := Lib.hid (fun W => join_any (be (l'.take p)) r W hpl)
      have HC3 := Lib.hid (HDV.out (be (l'.take p)) r hpl hr)
      have hr2 : (be (l'.take p) + 2 ^ 256 * r) % m < m := Nat.mod_lt _ hm0
      have hLn := LX.out ((be (l'.take p) + 2 ^ 256 * r) % m)
      clear HDV LX HRD hp hl256 HD hk1 hq1
      generalize wds 8 (be (l'.take p) + 2 ^ 256 * r) = l8 at *
      generalize wds 8 ((be (l'.take p) + 2 ^ 256 * r) / m) = lq at *
      generalize wds 4 (be (l'.take p)) = lp at *
      obtain ⟨r2, hr2e⟩ : ∃ z, z = (be (l'.take p) + 2 ^ 256 * r) % m := ⟨_, rfl⟩
      rw [← hr2e] at HC3 HST hr2 hLn
      clear hr2e hpl
      obtain ⟨l0, hl0⟩ : ∃ z, z = wds 4 r := ⟨_, rfl⟩
      rw [← hl0] at HC2 K3 hLr
      clear hl0
      have i240 : (Try.prog.info? 24).map (·.size) = some (natsV .u64 l0).length := by rw [info24, natsV_length, hLr]
      go_wp2_with fail
      refine wp_region_held_drew (S := (fun w' => w'.rangeAt w.heap.size 0 (natsV .u64 lm))) (by kernel_rfl) (blk_rangeV K1.out.drew) (fun hHeld => ?_)
      refine wpAnyH_take (i := 0) (oi := _) (v := _) rfl (by kernel_rfl) (by kernel_rfl) (by kernel_rfl) (fun _ _ _ h => h) (Or.inl ⟨by rfl, by intro w hSw; (try dsimp only at hSw); go_simp; first | done | with_reducible rfl⟩) hHeld ?_
      try simp only [Act.put, List.getElem_toArray, List.getElem_cons_succ, List.getElem_cons_zero, List.setIfInBounds_toArray, List.set_cons_zero, List.set_cons_succ]
      refine wpAnyH_take (i := 1) (oi := _) (v := _) rfl (by kernel_rfl) (by kernel_rfl) (by kernel_rfl) (fun _ _ _ h => h) (Or.inl ⟨by rfl, by intro w hSw; (try dsimp only at hSw); go_simp; first | done | with_reducible rfl⟩) hHeld ?_
      try simp only [Act.put, List.getElem_toArray, List.getElem_cons_succ, List.getElem_cons_zero, List.setIfInBounds_toArray, List.set_cons_zero, List.set_cons_succ]
      refine wpAnyH_take (i := 2) (oi := _) (v := _) rfl (by kernel_rfl) (by kernel_rfl) (by kernel_rfl) (fun _ _ _ h => h) (Or.inl ⟨by rfl, by intro w hSw; (try dsimp only at hSw); go_simp; first | done | with_reducible rfl⟩) hHeld ?_
      try simp only [Act.put, List.getElem_toArray, List.getElem_cons_succ, List.getElem_cons_zero, List.setIfInBounds_toArray, List.set_cons_zero, List.set_cons_succ]
      refine wpAnyH_take (i := 6) (oi := _) (v := _) rfl (by kernel_rfl) (by kernel_rfl) (by kernel_rfl) (fun _ _ _ h => h) (yieldsIf_load_mid (by rfl) _ _ rfl _ _ rfl _ _ (by intro w hSw; exact hSw) Try.underlying24 rfl i24m) hHeld ?_
      try simp only [Act.put, List.getElem_toArray, List.getElem_cons_succ, List.getElem_cons_zero, List.setIfInBounds_toArray, List.set_cons_zero, List.set_cons_succ]
      refine wpAnyH_ready (rs := [3, 4]) (by kernel_rfl) (by simp) ?_
      refine AllReadyH.cons (o := _) rfl (fun K hK => ?_) (AllReadyH.cons (o := _) rfl (fun K hK => ?_) AllReadyH.nil)
      · go_simp
        go_at_call 50
        refine (HC1.out _ hbel.drew).mono ?_
        rintro e wx91 ⟨rfl, hbx91⟩
        refine hK.out _ _ (range_keepF hHeld hbx91) (fun hHeld2 => ?_)
        clear hK K hHeld
        have hHeld := hHeld2
        clear hHeld2
        try simp only [Act.put, List.getElem_toArray, List.getElem_cons_succ, List.getElem_cons_zero, List.setIfInBounds_toArray, List.set_cons_zero, List.set_cons_succ]
        refine wpAnyH_ready (rs := [4]) (by kernel_rfl) (by simp) ?_
        refine AllReadyH.cons (o := _) rfl (fun K hK => ?_) AllReadyH.nil
        rw [if_pos (by rfl)]
        refine wp_load_row 24 (.tmp 6) rfl (w.heap.size + 1 + 1) rfl 24 (natsV .u64 l0).toArray (0, 0) _ (K3.out.drew.below' hbx91) Try.underlying24 rfl (by rw [info24, size_nats, hLr]) ?_
        refine hK.out _ _ hHeld (fun hHeld2 => ?_)
        clear hK K hHeld
        have hHeld := hHeld2
        clear hHeld2
        try simp only [Act.put, List.getElem_toArray, List.getElem_cons_succ, List.getElem_cons_zero, List.setIfInBounds_toArray, List.set_cons_zero, List.set_cons_succ]
        as_aux_lemma =>
        refine wpAnyH_ready (rs := [5]) (by kernel_rfl) (by simp) ?_
        refine AllReadyH.cons (o := _) rfl (fun K hK => ?_) AllReadyH.nil
        go_simp
        go_at_call 49
        refine (HC2.out _).mono ?_
        rintro e wx92 ⟨rfl, hbx92⟩
        refine hK.out _ _ (range_keepF hHeld hbx92) (fun hHeld2 => ?_)
        clear hK K hHeld
        have hHeld := hHeld2
        clear hHeld2
        try simp only [Act.put, List.getElem_toArray, List.getElem_cons_succ, List.getElem_cons_zero, List.setIfInBounds_toArray, List.set_cons_zero, List.set_cons_succ]
        refine wpAnyH_ready (rs := [7]) (by kernel_rfl) (by simp) ?_
        refine AllReadyH.cons (o := _) rfl (fun K hK => ?_) AllReadyH.nil
        go_simp
        go_at_call 44
        refine (HC3.out _).mono ?_
        rintro e wx93 ⟨rfl, hbx93⟩
        refine hK.out _ _ (range_keepF hHeld hbx93) (fun hHeld2 => ?_)
        clear hK K hHeld
        have hHeld := hHeld2
        clear hHeld2
        try simp only [Act.put, List.getElem_toArray, List.getElem_cons_succ, List.getElem_cons_zero, List.setIfInBounds_toArray, List.set_cons_zero, List.set_cons_succ]
        refine wpAnyH_take (i := 8) (oi := _) (v := _) rfl (by kernel_rfl) (by kernel_rfl) (by kernel_rfl) (fun _ _ _ h => h) (Or.inl ⟨by rfl, by intro w hSw; (try dsimp only at hSw); go_simp; first | done | with_reducible rfl⟩) hHeld ?_
        try simp only [Act.put, List.getElem_toArray, List.getElem_cons_succ, List.getElem_cons_zero, List.setIfInBounds_toArray, List.set_cons_zero, List.set_cons_succ]
        refine wpAnyH_take (i := 9) (oi := _) (v := _) rfl (by kernel_rfl) (by kernel_rfl) (by kernel_rfl) (fun _ _ _ h => h) (Or.inl ⟨by rfl, by intro w hSw; (try dsimp only at hSw); go_simp; first | done | with_reducible rfl⟩) hHeld ?_
        try simp only [Act.put, List.getElem_toArray, List.getElem_cons_succ, List.getElem_cons_zero, List.setIfInBounds_toArray, List.set_cons_zero, List.set_cons_succ]
        refine wpAnyH_take (i := 10) (oi := _) (v := _) rfl (by kernel_rfl) (by kernel_rfl) (by kernel_rfl) (fun _ _ _ h => h) (Or.inl ⟨by rfl, by intro w hSw; (try dsimp only at hSw); go_simp; first | done | with_reducible rfl⟩) hHeld ?_
        try simp only [Act.put, List.getElem_toArray, List.getElem_cons_succ, List.getElem_cons_zero, List.setIfInBounds_toArray, List.set_cons_zero, List.set_cons_succ]
        refine wpAnyH_ready (rs := [11]) (by kernel_rfl) (by simp) ?_
        refine AllReadyH.cons (o := _) rfl (fun K hK => ?_) AllReadyH.nil
        rw [if_pos (by rfl)]
        refine wst24 (.tmp 6) (.tmp 30) rfl (w.heap.size + 1 + 1) rfl (wds 4 r2) rfl hLn l0 (((K3.out.drew.below' hbx91).below' hbx92).below' hbx93) hLr ?_
        refine hK.out _ _ (blk_rangeV ((((K1.out.drew.below' hbx91).below' hbx92).below' hbx93).row (natsV .u64 (wds 4 r2)).toArray (by omega))) (fun hHeld2 => ?_)
        clear hK K hHeld hHeld2
        try simp only [Act.put, List.getElem_toArray, List.getElem_cons_succ, List.getElem_cons_zero, List.setIfInBounds_toArray, List.set_cons_zero, List.set_cons_succ]
        refine wpAnyH_done (by kernel_rfl) ?_ _
        have n3 := Lib.hid ((((K3.out.drew.below' hbx91).below' hbx92).below' hbx93).setRow (natsV .u64 (wds 4 r2)))
        have n1 := Lib.hid ((((K1.out.drew.below' hbx91).below' hbx92).below' hbx93).row (natsV .u64 (wds 4 r2)).toArray (show w.heap.size ≠ w.heap.size + 1 + 1 by omega))
        have n2 := Lib.hid ((((K2.out.drew.below' hbx91).below' hbx92).below' hbx93).row (natsV .u64 (wds 4 r2)).toArray (show w.heap.size + 1 ≠ w.heap.size + 1 + 1 by omega))
        have b1 := hbel.drew.trans (hbx91.mono hbel.drew.size)
        have b2 := b1.trans (hbx92.mono b1.size)
        have b3 := below_setRow' (b2.trans (hbx93.mono b2.size)) (show w.heap.size ≤ w.heap.size + 1 + 1 by omega) (natsV .u64 (wds 4 r2)).toArray
        clear hbx91 hbx92 hbx93 b1 b2 K1 K2 K3 hbel
        have hpi : (p : Int) ≤ (n' : Int) := by omega
        have hpc : (p : Int) ≤ (c' : Int) := by omega
        have hnc2 : (n' : Int) ≤ (c' : Int) := by omega
        have hp0 : (0 : Int) ≤ (p : Int) := by omega
        by_cases hcp : c' = p
        · obtain rfl : n' = p := by omega
          subst hcp
          go_wp2_with fail
          go_roundw
          case rel => exact ⟨_, _, _, _, r2, HTL.out _ (Or.inl ⟨rfl, by omega⟩), HST.out, hr2, by first | rfl | simp, n1.out, n2.out, n3.out, b3⟩
          case measure => simp <;> omega
        · have hcp2 : ¬ ((c' : Int) = (p : Int)) := by omega
          have hcp3 : ¬ (c' - p = 0) := by omega
          go_wp2_with fail
          go_roundw
          case rel => exact ⟨_, _, _, _, r2, HTL.out _ (Or.inr rfl), HST.out, hr2, by first | rfl | (simp; done) | (congr <;> omega), n1.out, n2.out, n3.out, b3⟩
          case measure => simp <;> omega
      · rw [if_pos (by rfl)]
        refine wp_load_row 24 (.tmp 6) rfl (w.heap.size + 1 + 1) rfl 24 (natsV .u64 l0).toArray (0, 0) _ K3.out.drew Try.underlying24 rfl (by rw [info24, size_nats, hLr]) ?_
        refine hK.out _ _ hHeld (fun hHeld2 => ?_)
        clear hK K hHeld
        have hHeld := hHeld2
        clear hHeld2
        try simp only [Act.put, List.getElem_toArray, List.getElem_cons_succ, List.getElem_cons_zero, List.setIfInBounds_toArray, List.set_cons_zero, List.set_cons_succ]
        refine wpAnyH_ready (rs := [3]) (by kernel_rfl) (by simp) ?_
        refine AllReadyH.cons (o := _) rfl (fun K hK => ?_) AllReadyH.nil
        go_simp
        go_at_call 50
        refine (HC1.out _ hbel.drew).mono ?_
        rintro e wx91 ⟨rfl, hbx91⟩
        refine hK.out _ _ (range_keepF hHeld hbx91) (fun hHeld2 => ?_)
        clear hK K hHeld
        have hHeld := hHeld2
        clear hHeld2
        try simp only [Act.put, List.getElem_toArray, List.getElem_cons_succ, List.getElem_cons_zero, List.setIfInBounds_toArray, List.set_cons_zero, List.set_cons_succ]
        as_aux_lemma =>
        refine wpAnyH_ready (rs := [5]) (by kernel_rfl) (by simp) ?_
        refine AllReadyH.cons (o := _) rfl (fun K hK => ?_) AllReadyH.nil
        go_simp
        go_at_call 49
        refine (HC2.out _).mono ?_
        rintro e wx92 ⟨rfl, hbx92⟩
        refine hK.out _ _ (range_keepF hHeld hbx92) (fun hHeld2 => ?_)
        clear hK K hHeld
        have hHeld := hHeld2
        clear hHeld2
        try simp only [Act.put, List.getElem_toArray, List.getElem_cons_succ, List.getElem_cons_zero, List.setIfInBounds_toArray, List.set_cons_zero, List.set_cons_succ]
        refine wpAnyH_ready (rs := [7]) (by kernel_rfl) (by simp) ?_
        refine AllReadyH.cons (o := _) rfl (fun K hK => ?_) AllReadyH.nil
        go_simp
        go_at_call 44
        refine (HC3.out _).mono ?_
        rintro e wx93 ⟨rfl, hbx93⟩
        refine hK.out _ _ (range_keepF hHeld hbx93) (fun hHeld2 => ?_)
        clear hK K hHeld
        have hHeld := hHeld2
        clear hHeld2
        try simp only [Act.put, List.getElem_toArray, List.getElem_cons_succ, List.getElem_cons_zero, List.setIfInBounds_toArray, List.set_cons_zero, List.set_cons_succ]
        refine wpAnyH_take (i := 8) (oi := _) (v := _) rfl (by kernel_rfl) (by kernel_rfl) (by kernel_rfl) (fun _ _ _ h => h) (Or.inl ⟨by rfl, by intro w hSw; (try dsimp only at hSw); go_simp; first | done | with_reducible rfl⟩) hHeld ?_
        try simp only [Act.put, List.getElem_toArray, List.getElem_cons_succ, List.getElem_cons_zero, List.setIfInBounds_toArray, List.set_cons_zero, List.set_cons_succ]
        refine wpAnyH_take (i := 9) (oi := _) (v := _) rfl (by kernel_rfl) (by kernel_rfl) (by kernel_rfl) (fun _ _ _ h => h) (Or.inl ⟨by rfl, by intro w hSw; (try dsimp only at hSw); go_simp; first | done | with_reducible rfl⟩) hHeld ?_
        try simp only [Act.put, List.getElem_toArray, List.getElem_cons_succ, List.getElem_cons_zero, List.setIfInBounds_toArray, List.set_cons_zero, List.set_cons_succ]
        refine wpAnyH_take (i := 10) (oi := _) (v := _) rfl (by kernel_rfl) (by kernel_rfl) (by kernel_rfl) (fun _ _ _ h => h) (Or.inl ⟨by rfl, by intro w hSw; (try dsimp only at hSw); go_simp; first | done | with_reducible rfl⟩) hHeld ?_
        try simp only [Act.put, List.getElem_toArray, List.getElem_cons_succ, List.getElem_cons_zero, List.setIfInBounds_toArray, List.set_cons_zero, List.set_cons_succ]
        refine wpAnyH_ready (rs := [11]) (by kernel_rfl) (by simp) ?_
        refine AllReadyH.cons (o := _) rfl (fun K hK => ?_) AllReadyH.nil
        rw [if_pos (by rfl)]
        refine wst24 (.tmp 6) (.tmp 30) rfl (w.heap.size + 1 + 1) rfl (wds 4 r2) rfl hLn l0 (((K3.out.drew.below' hbx91).below' hbx92).below' hbx93) hLr ?_
        refine hK.out _ _ (blk_rangeV ((((K1.out.drew.below' hbx91).below' hbx92).below' hbx93).row (natsV .u64 (wds 4 r2)).toArray (by omega))) (fun hHeld2 => ?_)
        clear hK K hHeld hHeld2
        try simp only [Act.put, List.getElem_toArray, List.getElem_cons_succ, List.getElem_cons_zero, List.setIfInBounds_toArray, List.set_cons_zero, List.set_cons_succ]
        refine wpAnyH_done (by kernel_rfl) ?_ _
        have n3 := Lib.hid ((((K3.out.drew.below' hbx91).below' hbx92).below' hbx93).setRow (natsV .u64 (wds 4 r2)))
        have n1 := Lib.hid ((((K1.out.drew.below' hbx91).below' hbx92).below' hbx93).row (natsV .u64 (wds 4 r2)).toArray (show w.heap.size ≠ w.heap.size + 1 + 1 by omega))
        have n2 := Lib.hid ((((K2.out.drew.below' hbx91).below' hbx92).below' hbx93).row (natsV .u64 (wds 4 r2)).toArray (show w.heap.size + 1 ≠ w.heap.size + 1 + 1 by omega))
        have b1 := hbel.drew.trans (hbx91.mono hbel.drew.size)
        have b2 := b1.trans (hbx92.mono b1.size)
        have b3 := below_setRow' (b2.trans (hbx93.mono b2.size)) (show w.heap.size ≤ w.heap.size + 1 + 1 by omega) (natsV .u64 (wds 4 r2)).toArray
        clear hbx91 hbx92 hbx93 b1 b2 K1 K2 K3 hbel
        have hpi : (p : Int) ≤ (n' : Int) := by omega
        have hpc : (p : Int) ≤ (c' : Int) := by omega
        have hnc2 : (n' : Int) ≤ (c' : Int) := by omega
        have hp0 : (0 : Int) ≤ (p : Int) := by omega
        by_cases hcp : c' = p
        · obtain rfl : n' = p := by omega
          subst hcp
          go_wp2_with fail
          go_roundw
          case rel => exact ⟨_, _, _, _, r2, HTL.out _ (Or.inl ⟨rfl, by omega⟩), HST.out, hr2, by first | rfl | simp, n1.out, n2.out, n3.out, b3⟩
          case measure => simp <;> omega
        · have hcp2 : ¬ ((c' : Int) = (p : Int)) := by omega
          have hcp3 : ¬ (c' - p = 0) := by omega
          go_wp2_with fail
          go_roundw
          case rel => exact ⟨_, _, _, _, r2, HTL.out _ (Or.inr rfl), HST.out, hr2, by first | rfl | (simp; done) | (congr <;> omega), n1.out, n2.out, n3.out, b3⟩
          case measure => simp <;> omega
    · as_aux_lemma =>
      obtain rfl : n' = 0 := by omega
      have hl0 : l' = [] := List.length_eq_zero_iff.1 hll
      subst hl0
      have hre := HRD.out.done
      subst hre
      go_wp2_with (first | (refine ld24 rfl (.tmp 6) rfl (w.heap.size + 1 + 1) rfl (wds 4 (be l % m)) K3.out hLr ?_) | (refine st24 rfl (.tmp 4) (.tmp 34) rfl (w.heap.size + 1) rfl (wds 4 (be l % m)) rfl hLr (zeros 4) K2.out rfl ?_))
      refine bodyPost_ret (v := .tuple #[.agg (natsV .u64 (wds 4 (be l % m))).toArray, .int .i64 0]) ?_ rfl ⟨rfl, below_setRow' hbel (by omega) _⟩
      exact ret24x Try.results16 _ _ (w.heap.size + 1) (wds 4 (be l % m)) _ rfl rfl (K2.out.setRow _) hLr
end Go.Proofs.Ytfaoajljaggklaa
