/- Parts of proofs of statements, each text behind those that it stands on. No condition of its own. -/
import Derived.Test.YtbabpmncdphnjaaGreatQ09
namespace Go.Proofs.YtbabpmncdphnjaaGreat
open Go.RowKit
set_option linter.unusedVariables false
set_option maxRecDepth 100000
set_option linter.unusedSimpArgs false
def FigsIs (l : List Nat) (w : World) (e : Ending) (w' : World) : Prop :=
  Below w.heap.size w w' ∧ ((oidOk l = false ∧ e = .returned (.tuple #[.slice none 0 0, .bool false])) ∨ (oidOk l = true ∧ ∃ a c, e = .returned (.tuple #[.slice a (fl l).length c, .bool true]) ∧ WIn w' a (fl l).length c (fl l)))
theorem FigsIs.bad {l : List Nat} {w w' : World} (h : oidOk l = false) (hb : Below w.heap.size w w') : FigsIs l w (.returned (.tuple #[.slice none 0 0, .bool false])) w' := ⟨hb, .inl ⟨h, rfl⟩⟩
theorem oid_no {l : List Nat} (h : ¬ (2 ≤ l.length ∧ l.length ≤ 20 ∧ l.getD 0 0 ≤ 2 ∧ (l.getD 0 0 = 2 ∨ l.getD 1 0 < 40) ∧ 40 * l.getD 0 0 + l.getD 1 0 ≤ 4294967295 ∧ ∀ x ∈ l.drop 2, x ≤ 4294967295)) : oidOk l = false := decide_eq_false h
theorem wrapu {n : Nat} (h : n < 18446744073709551616) : IntKind.u64.wrap (n : Int) = (n : Int) := by
  have e : (n : Int) % 2 ^ 64 = n := Int.emod_eq_of_lt (by omega) (by omega)
  simp only [IntKind.wrap, IntKind.bits, IntKind.signed, e]
  rw [if_neg]
  simp
set_option maxHeartbeats 4000000 in
theorem figures_any (w : World) (a : Option Addr) (n c : Nat) (l : List Nat) (hin : WIn w a n c l) : Calls Tryz.prog 115 #[.slice a n c] w (FigsIs l w) := by
  have hln : l.length = n := hin.1
  have ENT0 := True.intro
  clear ENT0
  by_cases h2 : n < 2
  · have hX := Lib.hid (oid_no (l := l) (fun h => by omega))
    have hi : (n : Int) < 2 := by omega
    clear hin hln
    go_enter Tryz.func115, Tryz.ntmps115
    go_wp2
    go_ret2
    exact FigsIs.bad hX.out (Below.refl _ _)
  by_cases h20 : 20 < n
  · have hX := Lib.hid (oid_no (l := l) (fun h => by omega))
    have hi : ¬ (n : Int) < 2 := by omega
    have hi2 : (20 : Int) < (n : Int) := by omega
    clear hin hln
    go_enter Tryz.func115, Tryz.ntmps115
    go_wp2
    go_ret2
    exact FigsIs.bad hX.out (Below.refl _ _)
  obtain ⟨B, o, rfl, hc⟩ := hin.2.2.2.2.2.2.resolve_left (by omega)
  have hcn := hin.2.1
  have hw64 := hin.2.2.2.1
  have HIN := Lib.hid hin
  have i1 : ¬ (n : Int) < 2 := by omega
  have i2 : ¬ (20 : Int) < (n : Int) := by omega
  have i3 : (0 : Int) < (n : Int) := by omega
  have i4 : (1 : Int) < (n : Int) := by omega
  have i5 : 0 < n := by omega
  have i6 : 1 < n := by omega
  have c0 := hc 0 (by omega)
  have c1 := hc 1 (by omega)
  rw [Nat.add_zero] at c0
  obtain ⟨x0, hx0⟩ : ∃ x, l.getD 0 0 = x := ⟨_, rfl⟩
  obtain ⟨x1, hx1⟩ : ∃ x, l.getD 1 0 = x := ⟨_, rfl⟩
  have hb1 : x1 < 18446744073709551616 := by rw [← hx1]; exact getD_ltw hw64 1
  have hb0 : x0 < 18446744073709551616 := by rw [← hx0]; exact getD_ltw hw64 0
  rw [hx0] at c0
  rw [hx1] at c1
  have HX0 := Lib.hid hx0
  have HX1 := Lib.hid hx1
  have HLN := Lib.hid hln
  clear hin hc hx0 hx1 hln hw64
  by_cases hg : 2 < x0
  · have hX := Lib.hid (oid_no (l := l) (fun h => by have := HX0.out; omega))
    have hgi : (2 : Int) < (x0 : Int) := by omega
    go_enter Tryz.func115, Tryz.ntmps115
    go_wp2
    go_ret2
    exact FigsIs.bad hX.out (Below.refl _ _)
  have hgi : ¬ (2 : Int) < (x0 : Int) := by omega
  by_cases hd : x0 ≠ 2 ∧ 40 ≤ x1
  · have hX := Lib.hid (oid_no (l := l) (fun h => by have := HX0.out; have := HX1.out; omega))
    have hd1 : ((x0 : Int) != 2) = true := by have := hd.1; simp; omega
    have hd2 : (40 : Int) ≤ (x1 : Int) := by omega
    clear hd
    go_enter Tryz.func115, Tryz.ntmps115
    go_wp2
    go_ret2
    exact FigsIs.bad hX.out (Below.refl _ _)
  have HD := Lib.hid hd
  by_cases hm : 4294967295 < x1
  · have hX := Lib.hid (oid_no (l := l) (fun h => by have := HX0.out; have := HX1.out; omega))
    have hmi : (4294967295 : Int) < (x1 : Int) := by omega
    rcases Decidable.em (x0 = 2) with he | he
    · subst he
      clear hd hm
      go_enter Tryz.func115, Tryz.ntmps115
      go_wp2
      go_ret2
      exact FigsIs.bad hX.out (Below.refl _ _)
    · exfalso; omega
  have hmi : ¬ (4294967295 : Int) < (x1 : Int) := by omega
  have hF := Lib.hid (show fl l = (40 * x0 + x1) :: l.drop 2 by unfold fl; rw [HX0.out, HX1.out])
  have hsum : x0 * 40 + x1 < 18446744073709551616 := by omega
  obtain ⟨p0, hp0⟩ : ∃ p, 40 * x0 = p := ⟨_, rfl⟩
  rw [hp0] at hF
  have hwm : IntKind.u64.wrap ((x0 : Int) * 40) = (p0 : Int) := by rw [show (x0 : Int) * 40 = ((p0 : Nat) : Int) by omega]; exact wrapu (by omega)
  have hwa : IntKind.u64.wrap ((p0 : Int) + (x1 : Int)) = ((p0 + x1 : Nat) : Int) := by rw [show (p0 : Int) + (x1 : Int) = ((p0 + x1 : Nat) : Int) by omega]; exact wrapu (by omega)
  have HP0 := Lib.hid hp0
  obtain ⟨f0, hf0⟩ : ∃ f, p0 + x1 = f := ⟨_, rfl⟩
  have HF0 := Lib.hid (show 40 * x0 + x1 = f0 by omega)
  rw [hf0] at hwa hF
  have hf8 : f0 < 18446744073709551616 := by omega
  clear hf0 hp0
  by_cases hc2 : c = 2
  · subst hc2
    obtain rfl : n = 2 := by omega
    rcases Decidable.em (x0 = 2) with he | he
    · have he1 : ((x0 : Int) != 2) = false := by simp [he]
      clear hd hm he
      have HWD := Lib.hid (fun W hS => by have := (HIN.out.below hS).drop (f := 2) (by omega) (some ⟨B, o, none⟩) (.inl ⟨rfl, by omega⟩); simpa using this : ∀ W, Below w.heap.size w W → WIn W (some ⟨B, o, none⟩) 0 0 (l.drop 2))
      go_enter Tryz.func115, Tryz.ntmps115
      go_wp2_with fail
      refine wp_region_L (fun w_ => Below w.heap.size w w_) [] [0, 1, 3, 4, 5, 7, 9, 10, 12] (by kernel_rfl) (Below.refl _ _).drew ?_
      refine wpAnyL_pure (fun _ _ hS_ hb_ => gr_bel hS_ hb_) (i := 0) rfl (by kernel_rfl) (fun _ _ _ h => h) (pureG (by rfl) (by intro w_; go_simp; first | done | with_reducible rfl)) ?_
      try simp only [Act.put, List.getElem_toArray, List.getElem_cons_succ, List.getElem_cons_zero, List.setIfInBounds_toArray, List.set_cons_zero, List.set_cons_succ]
      refine wpAnyL_pure (fun _ _ hS_ hb_ => gr_bel hS_ hb_) (i := 1) rfl (by kernel_rfl) (fun _ _ _ h => h) (pureG (by rfl) (by intro w_; go_simp; first | done | with_reducible rfl)) ?_
      try simp only [Act.put, List.getElem_toArray, List.getElem_cons_succ, List.getElem_cons_zero, List.setIfInBounds_toArray, List.set_cons_zero, List.set_cons_succ]
      refine wpAnyL_take (fun _ _ hS_ hb_ => gr_bel hS_ hb_) (i := 2) rfl (by kernel_rfl) (fun _ _ _ h => h) (worldG (by rfl) (by intro w_ hS_; have q := (hS_.cell (World.block_lt_of_cell? w _ c0)).trans c0; go_simp; first | done | with_reducible rfl)) ?_
      try simp only [Act.put, List.getElem_toArray, List.getElem_cons_succ, List.getElem_cons_zero, List.setIfInBounds_toArray, List.set_cons_zero, List.set_cons_succ]
      refine wpAnyL_pure (fun _ _ hS_ hb_ => gr_bel hS_ hb_) (i := 3) rfl (by kernel_rfl) (fun _ _ _ h => h) (pureG (by rfl) (by intro w_; go_simp; first | done | with_reducible rfl)) ?_
      try simp only [Act.put, List.getElem_toArray, List.getElem_cons_succ, List.getElem_cons_zero, List.setIfInBounds_toArray, List.set_cons_zero, List.set_cons_succ]
      refine wpAnyL_pure (fun _ _ hS_ hb_ => gr_bel hS_ hb_) (i := 4) rfl (by kernel_rfl) (fun _ _ _ h => h) (pureG (by rfl) (by intro w_; go_simp; first | done | with_reducible rfl)) ?_
      try simp only [Act.put, List.getElem_toArray, List.getElem_cons_succ, List.getElem_cons_zero, List.setIfInBounds_toArray, List.set_cons_zero, List.set_cons_succ]
      refine wpAnyL_pure (fun _ _ hS_ hb_ => gr_bel hS_ hb_) (i := 5) rfl (by kernel_rfl) (fun _ _ _ h => h) (pureG (by rfl) (by intro w_; go_simp; first | done | with_reducible rfl)) ?_
      try simp only [Act.put, List.getElem_toArray, List.getElem_cons_succ, List.getElem_cons_zero, List.setIfInBounds_toArray, List.set_cons_zero, List.set_cons_succ]
      refine wpAnyL_take (fun _ _ hS_ hb_ => gr_bel hS_ hb_) (i := 6) rfl (by kernel_rfl) (fun _ _ _ h => h) (worldG (by rfl) (by intro w_ hS_; have q := (hS_.cell (World.block_lt_of_cell? w _ c1)).trans c1; go_simp; first | done | with_reducible rfl)) ?_
      try simp only [Act.put, List.getElem_toArray, List.getElem_cons_succ, List.getElem_cons_zero, List.setIfInBounds_toArray, List.set_cons_zero, List.set_cons_succ]
      refine wpAnyL_pure (fun _ _ hS_ hb_ => gr_bel hS_ hb_) (i := 7) rfl (by kernel_rfl) (fun _ _ _ h => h) (pureG (by rfl) (by intro w_; go_simp; first | done | with_reducible rfl)) ?_
      try simp only [Act.put, List.getElem_toArray, List.getElem_cons_succ, List.getElem_cons_zero, List.setIfInBounds_toArray, List.set_cons_zero, List.set_cons_succ]
      refine wpAnyL_pure (fun _ _ hS_ hb_ => gr_bel hS_ hb_) (i := 9) rfl (by kernel_rfl) (fun _ _ _ h => h) (pureG (by rfl) (by intro w_; go_simp; first | done | with_reducible rfl)) ?_
      try simp only [Act.put, List.getElem_toArray, List.getElem_cons_succ, List.getElem_cons_zero, List.setIfInBounds_toArray, List.set_cons_zero, List.set_cons_succ]
      refine wpAnyL_pure (fun _ _ hS_ hb_ => gr_bel hS_ hb_) (i := 10) rfl (by kernel_rfl) (fun _ _ _ h => h) (pureG (by rfl) (by intro w_; go_simp; first | done | with_reducible rfl)) ?_
      try simp only [Act.put, List.getElem_toArray, List.getElem_cons_succ, List.getElem_cons_zero, List.setIfInBounds_toArray, List.set_cons_zero, List.set_cons_succ]
      refine wpAnyL_one (i := 8) (by kernel_rfl) (by decide) fun W1 hg1 hS1 => ?_
      refine wpOp_run (i := 8) (v := .slice (some ⟨W1.heap.size, 0, none⟩) 1 1) (W2 := W1.alloc (.cells #[.int .u64 (f0 : Nat)] 23)) rfl (by rfl) (by go_simp; first | done | rfl) ?_
      refine ⟨hS1.alloc hS1.size _, ?_⟩
      try simp only [Act.put, List.getElem_toArray, List.getElem_cons_succ, List.getElem_cons_zero, List.setIfInBounds_toArray, List.set_cons_zero, List.set_cons_succ]
      refine wpAnyL_one (i := 11) (by kernel_rfl) (by decide) fun W2 hg2 hS2 => ?_
      refine wpOp_append_words (i := 11) rfl (by rfl) _ _ rfl w.heap.size (.slice (some ⟨W1.heap.size, 0, none⟩) 1 1) 1 [f0] rfl (own_below (ownsMono (litw W1 [f0] (by simp)) hS1.size) hg2) (some ⟨B, o, none⟩) 0 0 (l.drop 2) (by simp [Act.eval]) (HWD.out W2 hS2) (by omega) hS2.size fun v3 W3 ho3 hg3 => ?_
      obtain ⟨a3, c3, rfl⟩ := own_slice ho3
      refine ⟨hS2.grown hg3 hS2.size (fun x hx => by simp [Value.ownBlock] at hx; have := hS1.size; omega), ?_⟩
      try simp only [Act.put, List.getElem_toArray, List.getElem_cons_succ, List.getElem_cons_zero, List.setIfInBounds_toArray, List.set_cons_zero, List.set_cons_succ]
      refine wpAnyL_pure (fun _ _ hS_ hb_ => gr_bel hS_ hb_) (i := 12) rfl (by kernel_rfl) (fun _ _ _ h => h) (pureG (by rfl) (by intro w_; go_simp; first | done | with_reducible rfl)) ?_
      try simp only [Act.put, List.getElem_toArray, List.getElem_cons_succ, List.getElem_cons_zero, List.setIfInBounds_toArray, List.set_cons_zero, List.set_cons_succ]
      refine wpAnyL_done (by kernel_rfl) ?_ _
      intro W4 hgW4
      have hbW3 : Below w.heap.size w W3 := hS2.grown hg3 hS2.size (fun x hx => by simp [Value.ownBlock] at hx; have := hS1.size; omega)
      have hb4 : Below w.heap.size w W4 := hbW3.trans (Below.mono hgW4 hbW3.size)
      have ho4 := own_below ho3 hgW4
      have e5 : [f0] ++ l.drop 2 = fl l := hF.out.symm
      have hle1 : (fl l).length = 1 := by have := HLN.out; rw [← e5]; simp; omega
      rw [e5] at ho4; simp only [Nat.add_zero] at ho4
      have hfl8 : ∀ x ∈ fl l, x < 18446744073709551616 := by rw [← e5]; intro x hx; rcases List.mem_append.1 hx with hx | hx; (simp at hx; omega); exact HIN.out.2.2.2.1 x (List.mem_of_mem_drop hx)
      obtain ⟨a5, c5, e, hin4, _⟩ := ownw_in ho4 hfl8 (by omega)
      injection e with e1 e2 e3
      subst e1 e3
      have HIN4 := Lib.hid hin4
      have HB4 := Lib.hid hb4
      have HP := Lib.hid (show True ∨ True from .inl trivial)
      obtain ⟨B5, o5, rfl, hc5⟩ := hin4.2.2.2.2.2.2.resolve_left (by omega)
      have HC5 := Lib.hid (fun wx (h : Below W4.heap.size W4 wx) i hi => (h.cell (World.block_lt_of_cell? W4 _ (hc5 i hi))).trans (hc5 i hi))
      have HFL := Lib.hid (show ∀ x ∈ fl l, x < 18446744073709551616 from hfl8)
      have HOK := Lib.hid (show (∀ x ∈ fl l, x ≤ 4294967295) → oidOk l = true from fun h => decide_eq_true ⟨by rw [HLN.out]; omega, by rw [HLN.out]; omega, by rw [HX0.out]; omega, by rw [HX0.out, HX1.out]; have := HD.out; omega, by rw [HX0.out, HX1.out, HF0.out]; exact h f0 (by rw [← e5]; simp), fun x hx => h x (by rw [← e5]; simp [hx])⟩)
      have HNO := Lib.hid (show ∀ x ∈ fl l, ¬ x ≤ 4294967295 → oidOk l = false from fun x hx hn => oid_no (fun hh => hn (by rw [← e5] at hx; rcases List.mem_append.1 hx with h1 | h1; (simp at h1; subst h1; have := hh.2.2.2.2.1; rw [HX0.out, HX1.out, HF0.out] at this; exact this); exact hh.2.2.2.2.2 x h1)))
      clear ho4 hin4 hc5 hb4 hgW4 hbW3 ho3 hg3 hg2 hg1 e5 hfl8 e2 hF
      generalize hfl : fl l = F at *
      have HFE := Lib.hid hfl
      have HML := Lib.hid hle1
      clear hfl hle1
      go_wp2_with fail
      go_loopw [5, 48] (fun f i wr => ∃ q, q ≤ 1 ∧ i = .int .i64 (q : Nat) ∧ (∀ x, x < q → F.getD x 0 ≤ 4294967295) ∧ Below W4.heap.size W4 wr) (fun _ i _ => 1 - (intOf i).toNat)
      case atStart => exact ⟨0, Nat.zero_le _, rfl, fun x hx => by omega, Below.refl _ _⟩
      case round =>
        obtain ⟨q, hq, rfl, hall, hbel⟩ := hrel
        have HA := Lib.hid hall
        have HBW := Lib.hid (HB4.out.trans (hbel.mono HB4.out.size))
        clear hall
        by_cases hqm : q < 1
        · have hqi : (q : Int) < (1 : Int) := by omega
          have cq := HC5.out wr hbel q hqm
          have hx8 := getD_ltw HFL.out q
          have HMEM := Lib.hid (show F.getD q 0 ∈ F by rw [List.getD_eq_getElem?_getD, List.getElem?_eq_getElem (by rw [HML.out]; exact hqm)]; exact List.getElem_mem _)
          by_cases hbig : 4294967295 < F.getD q 0
          · have hX := Lib.hid (HNO.out _ HMEM.out (by omega))
            have hbi : (4294967295 : Int) < (F.getD q 0 : Nat) := by omega
            generalize F.getD q 0 = y at *
            go_wp2_with fail
            go_ret2
            exact FigsIs.bad hX.out HBW.out
          · have hbi : ¬ (4294967295 : Int) < (F.getD q 0 : Nat) := by omega
            have HA2 := Lib.hid (show ∀ x, x < q + 1 → F.getD x 0 ≤ 4294967295 from fun x hx => by rcases Nat.lt_or_ge x q with h | h; exact HA.out x h; (obtain rfl : x = q := by omega); omega)
            generalize F.getD q 0 = y at *
            go_wp2_with fail
            go_roundw
            case rel => exact ⟨q + 1, by omega, by go_num, HA2.out, hbel⟩
            case measure => simp [intOf]; omega
        · have hqi : ¬ (q : Int) < (1 : Int) := by omega
          have hOK := Lib.hid (HOK.out (fun x hx => by obtain ⟨j, hj, rfl⟩ := List.getElem_of_mem hx; have := HA.out j (by rw [HML.out] at hj; omega); rwa [List.getD_eq_getElem?_getD, List.getElem?_eq_getElem hj] at this))
          have HI5 := Lib.hid (HIN4.out.below hbel)
          have HFE2 := Lib.hid (show 1 = (fl l).length by rw [HFE.out, HML.out])
          go_wp2_with fail
          go_ret2
          refine ⟨HBW.out, .inr ⟨hOK.out, some ⟨B5, o5, none⟩, c3, by first | (rw [← HFE2.out]; done) | (rw [← HFE2.out]; rfl), ?_⟩⟩
          rw [← HFE2.out, HFE.out]
          exact HI5.out
    · have he1 : ((x0 : Int) != 2) = true := by simp; omega
      have he2 : ¬ (40 : Int) ≤ (x1 : Int) := by omega
      clear hd hm he
      have HWD := Lib.hid (fun W hS => by have := (HIN.out.below hS).drop (f := 2) (by omega) (some ⟨B, o, none⟩) (.inl ⟨rfl, by omega⟩); simpa using this : ∀ W, Below w.heap.size w W → WIn W (some ⟨B, o, none⟩) 0 0 (l.drop 2))
      go_enter Tryz.func115, Tryz.ntmps115
      go_wp2_with fail
      refine wp_region_L (fun w_ => Below w.heap.size w w_) [] [0, 1, 3, 4, 5, 7, 9, 10, 12] (by kernel_rfl) (Below.refl _ _).drew ?_
      refine wpAnyL_pure (fun _ _ hS_ hb_ => gr_bel hS_ hb_) (i := 0) rfl (by kernel_rfl) (fun _ _ _ h => h) (pureG (by rfl) (by intro w_; go_simp; first | done | with_reducible rfl)) ?_
      try simp only [Act.put, List.getElem_toArray, List.getElem_cons_succ, List.getElem_cons_zero, List.setIfInBounds_toArray, List.set_cons_zero, List.set_cons_succ]
      refine wpAnyL_pure (fun _ _ hS_ hb_ => gr_bel hS_ hb_) (i := 1) rfl (by kernel_rfl) (fun _ _ _ h => h) (pureG (by rfl) (by intro w_; go_simp; first | done | with_reducible rfl)) ?_
      try simp only [Act.put, List.getElem_toArray, List.getElem_cons_succ, List.getElem_cons_zero, List.setIfInBounds_toArray, List.set_cons_zero, List.set_cons_succ]
      refine wpAnyL_take (fun _ _ hS_ hb_ => gr_bel hS_ hb_) (i := 2) rfl (by kernel_rfl) (fun _ _ _ h => h) (worldG (by rfl) (by intro w_ hS_; have q := (hS_.cell (World.block_lt_of_cell? w _ c0)).trans c0; go_simp; first | done | with_reducible rfl)) ?_
      try simp only [Act.put, List.getElem_toArray, List.getElem_cons_succ, List.getElem_cons_zero, List.setIfInBounds_toArray, List.set_cons_zero, List.set_cons_succ]
      refine wpAnyL_pure (fun _ _ hS_ hb_ => gr_bel hS_ hb_) (i := 3) rfl (by kernel_rfl) (fun _ _ _ h => h) (pureG (by rfl) (by intro w_; go_simp; first | done | with_reducible rfl)) ?_
      try simp only [Act.put, List.getElem_toArray, List.getElem_cons_succ, List.getElem_cons_zero, List.setIfInBounds_toArray, List.set_cons_zero, List.set_cons_succ]
      refine wpAnyL_pure (fun _ _ hS_ hb_ => gr_bel hS_ hb_) (i := 4) rfl (by kernel_rfl) (fun _ _ _ h => h) (pureG (by rfl) (by intro w_; go_simp; first | done | with_reducible rfl)) ?_
      try simp only [Act.put, List.getElem_toArray, List.getElem_cons_succ, List.getElem_cons_zero, List.setIfInBounds_toArray, List.set_cons_zero, List.set_cons_succ]
      refine wpAnyL_pure (fun _ _ hS_ hb_ => gr_bel hS_ hb_) (i := 5) rfl (by kernel_rfl) (fun _ _ _ h => h) (pureG (by rfl) (by intro w_; go_simp; first | done | with_reducible rfl)) ?_
      try simp only [Act.put, List.getElem_toArray, List.getElem_cons_succ, List.getElem_cons_zero, List.setIfInBounds_toArray, List.set_cons_zero, List.set_cons_succ]
      refine wpAnyL_take (fun _ _ hS_ hb_ => gr_bel hS_ hb_) (i := 6) rfl (by kernel_rfl) (fun _ _ _ h => h) (worldG (by rfl) (by intro w_ hS_; have q := (hS_.cell (World.block_lt_of_cell? w _ c1)).trans c1; go_simp; first | done | with_reducible rfl)) ?_
      try simp only [Act.put, List.getElem_toArray, List.getElem_cons_succ, List.getElem_cons_zero, List.setIfInBounds_toArray, List.set_cons_zero, List.set_cons_succ]
      refine wpAnyL_pure (fun _ _ hS_ hb_ => gr_bel hS_ hb_) (i := 7) rfl (by kernel_rfl) (fun _ _ _ h => h) (pureG (by rfl) (by intro w_; go_simp; first | done | with_reducible rfl)) ?_
      try simp only [Act.put, List.getElem_toArray, List.getElem_cons_succ, List.getElem_cons_zero, List.setIfInBounds_toArray, List.set_cons_zero, List.set_cons_succ]
      refine wpAnyL_pure (fun _ _ hS_ hb_ => gr_bel hS_ hb_) (i := 9) rfl (by kernel_rfl) (fun _ _ _ h => h) (pureG (by rfl) (by intro w_; go_simp; first | done | with_reducible rfl)) ?_
      try simp only [Act.put, List.getElem_toArray, List.getElem_cons_succ, List.getElem_cons_zero, List.setIfInBounds_toArray, List.set_cons_zero, List.set_cons_succ]
      refine wpAnyL_pure (fun _ _ hS_ hb_ => gr_bel hS_ hb_) (i := 10) rfl (by kernel_rfl) (fun _ _ _ h => h) (pureG (by rfl) (by intro w_; go_simp; first | done | with_reducible rfl)) ?_
      try simp only [Act.put, List.getElem_toArray, List.getElem_cons_succ, List.getElem_cons_zero, List.setIfInBounds_toArray, List.set_cons_zero, List.set_cons_succ]
      refine wpAnyL_one (i := 8) (by kernel_rfl) (by decide) fun W1 hg1 hS1 => ?_
      refine wpOp_run (i := 8) (v := .slice (some ⟨W1.heap.size, 0, none⟩) 1 1) (W2 := W1.alloc (.cells #[.int .u64 (f0 : Nat)] 23)) rfl (by rfl) (by go_simp; first | done | rfl) ?_
      refine ⟨hS1.alloc hS1.size _, ?_⟩
      try simp only [Act.put, List.getElem_toArray, List.getElem_cons_succ, List.getElem_cons_zero, List.setIfInBounds_toArray, List.set_cons_zero, List.set_cons_succ]
      refine wpAnyL_one (i := 11) (by kernel_rfl) (by decide) fun W2 hg2 hS2 => ?_
      refine wpOp_append_words (i := 11) rfl (by rfl) _ _ rfl w.heap.size (.slice (some ⟨W1.heap.size, 0, none⟩) 1 1) 1 [f0] rfl (own_below (ownsMono (litw W1 [f0] (by simp)) hS1.size) hg2) (some ⟨B, o, none⟩) 0 0 (l.drop 2) (by simp [Act.eval]) (HWD.out W2 hS2) (by omega) hS2.size fun v3 W3 ho3 hg3 => ?_
      obtain ⟨a3, c3, rfl⟩ := own_slice ho3
      refine ⟨hS2.grown hg3 hS2.size (fun x hx => by simp [Value.ownBlock] at hx; have := hS1.size; omega), ?_⟩
      try simp only [Act.put, List.getElem_toArray, List.getElem_cons_succ, List.getElem_cons_zero, List.setIfInBounds_toArray, List.set_cons_zero, List.set_cons_succ]
      refine wpAnyL_pure (fun _ _ hS_ hb_ => gr_bel hS_ hb_) (i := 12) rfl (by kernel_rfl) (fun _ _ _ h => h) (pureG (by rfl) (by intro w_; go_simp; first | done | with_reducible rfl)) ?_
      try simp only [Act.put, List.getElem_toArray, List.getElem_cons_succ, List.getElem_cons_zero, List.setIfInBounds_toArray, List.set_cons_zero, List.set_cons_succ]
      refine wpAnyL_done (by kernel_rfl) ?_ _
      intro W4 hgW4
      have hbW3 : Below w.heap.size w W3 := hS2.grown hg3 hS2.size (fun x hx => by simp [Value.ownBlock] at hx; have := hS1.size; omega)
      have hb4 : Below w.heap.size w W4 := hbW3.trans (Below.mono hgW4 hbW3.size)
      have ho4 := own_below ho3 hgW4
      have e5 : [f0] ++ l.drop 2 = fl l := hF.out.symm
      have hle1 : (fl l).length = 1 := by have := HLN.out; rw [← e5]; simp; omega
      rw [e5] at ho4; simp only [Nat.add_zero] at ho4
      have hfl8 : ∀ x ∈ fl l, x < 18446744073709551616 := by rw [← e5]; intro x hx; rcases List.mem_append.1 hx with hx | hx; (simp at hx; omega); exact HIN.out.2.2.2.1 x (List.mem_of_mem_drop hx)
      obtain ⟨a5, c5, e, hin4, _⟩ := ownw_in ho4 hfl8 (by omega)
      injection e with e1 e2 e3
      subst e1 e3
      have HIN4 := Lib.hid hin4
      have HB4 := Lib.hid hb4
      have HP := Lib.hid (show True ∨ True from .inl trivial)
      obtain ⟨B5, o5, rfl, hc5⟩ := hin4.2.2.2.2.2.2.resolve_left (by omega)
      have HC5 := Lib.hid (fun wx (h : Below W4.heap.size W4 wx) i hi => (h.cell (World.block_lt_of_cell? W4 _ (hc5 i hi))).trans (hc5 i hi))
      have HFL := Lib.hid (show ∀ x ∈ fl l, x < 18446744073709551616 from hfl8)
      have HOK := Lib.hid (show (∀ x ∈ fl l, x ≤ 4294967295) → oidOk l = true from fun h => decide_eq_true ⟨by rw [HLN.out]; omega, by rw [HLN.out]; omega, by rw [HX0.out]; omega, by rw [HX0.out, HX1.out]; have := HD.out; omega, by rw [HX0.out, HX1.out, HF0.out]; exact h f0 (by rw [← e5]; simp), fun x hx => h x (by rw [← e5]; simp [hx])⟩)
      have HNO := Lib.hid (show ∀ x ∈ fl l, ¬ x ≤ 4294967295 → oidOk l = false from fun x hx hn => oid_no (fun hh => hn (by rw [← e5] at hx; rcases List.mem_append.1 hx with h1 | h1; (simp at h1; subst h1; have := hh.2.2.2.2.1; rw [HX0.out, HX1.out, HF0.out] at this; exact this); exact hh.2.2.2.2.2 x h1)))
      clear ho4 hin4 hc5 hb4 hgW4 hbW3 ho3 hg3 hg2 hg1 e5 hfl8 e2 hF
      generalize hfl : fl l = F at *
      have HFE := Lib.hid hfl
      have HML := Lib.hid hle1
      clear hfl hle1
      go_wp2_with fail
      go_loopw [5, 48] (fun f i wr => ∃ q, q ≤ 1 ∧ i = .int .i64 (q : Nat) ∧ (∀ x, x < q → F.getD x 0 ≤ 4294967295) ∧ Below W4.heap.size W4 wr) (fun _ i _ => 1 - (intOf i).toNat)
      case atStart => exact ⟨0, Nat.zero_le _, rfl, fun x hx => by omega, Below.refl _ _⟩
      case round =>
        obtain ⟨q, hq, rfl, hall, hbel⟩ := hrel
        have HA := Lib.hid hall
        have HBW := Lib.hid (HB4.out.trans (hbel.mono HB4.out.size))
        clear hall
        by_cases hqm : q < 1
        · have hqi : (q : Int) < (1 : Int) := by omega
          have cq := HC5.out wr hbel q hqm
          have hx8 := getD_ltw HFL.out q
          have HMEM := Lib.hid (show F.getD q 0 ∈ F by rw [List.getD_eq_getElem?_getD, List.getElem?_eq_getElem (by rw [HML.out]; exact hqm)]; exact List.getElem_mem _)
          by_cases hbig : 4294967295 < F.getD q 0
          · have hX := Lib.hid (HNO.out _ HMEM.out (by omega))
            have hbi : (4294967295 : Int) < (F.getD q 0 : Nat) := by omega
            generalize F.getD q 0 = y at *
            go_wp2_with fail
            go_ret2
            exact FigsIs.bad hX.out HBW.out
          · have hbi : ¬ (4294967295 : Int) < (F.getD q 0 : Nat) := by omega
            have HA2 := Lib.hid (show ∀ x, x < q + 1 → F.getD x 0 ≤ 4294967295 from fun x hx => by rcases Nat.lt_or_ge x q with h | h; exact HA.out x h; (obtain rfl : x = q := by omega); omega)
            generalize F.getD q 0 = y at *
            go_wp2_with fail
            go_roundw
            case rel => exact ⟨q + 1, by omega, by go_num, HA2.out, hbel⟩
            case measure => simp [intOf]; omega
        · have hqi : ¬ (q : Int) < (1 : Int) := by omega
          have hOK := Lib.hid (HOK.out (fun x hx => by obtain ⟨j, hj, rfl⟩ := List.getElem_of_mem hx; have := HA.out j (by rw [HML.out] at hj; omega); rwa [List.getD_eq_getElem?_getD, List.getElem?_eq_getElem hj] at this))
          have HI5 := Lib.hid (HIN4.out.below hbel)
          have HFE2 := Lib.hid (show 1 = (fl l).length by rw [HFE.out, HML.out])
          go_wp2_with fail
          go_ret2
          refine ⟨HBW.out, .inr ⟨hOK.out, some ⟨B5, o5, none⟩, c3, by first | (rw [← HFE2.out]; done) | (rw [← HFE2.out]; rfl), ?_⟩⟩
          rw [← HFE2.out, HFE.out]
          exact HI5.out
  · skip
    rcases Decidable.em (x0 = 2) with he | he
    · have he1 : ((x0 : Int) != 2) = false := by simp [he]
      clear hd hm he
      have HWD := Lib.hid (fun W (hS : Below w.heap.size w W) => (HIN.out.below hS).drop (f := 2) (by omega) (some ⟨B, o + 2, none⟩) (.inr rfl))
      go_enter Tryz.func115, Tryz.ntmps115
      go_wp2_with fail
      refine wp_region_L (fun w_ => Below w.heap.size w w_) [] [0, 1, 3, 4, 5, 7, 9, 10, 12] (by kernel_rfl) (Below.refl _ _).drew ?_
      refine wpAnyL_pure (fun _ _ hS_ hb_ => gr_bel hS_ hb_) (i := 0) rfl (by kernel_rfl) (fun _ _ _ h => h) (pureG (by rfl) (by intro w_; go_simp; first | done | with_reducible rfl)) ?_
      try simp only [Act.put, List.getElem_toArray, List.getElem_cons_succ, List.getElem_cons_zero, List.setIfInBounds_toArray, List.set_cons_zero, List.set_cons_succ]
      refine wpAnyL_pure (fun _ _ hS_ hb_ => gr_bel hS_ hb_) (i := 1) rfl (by kernel_rfl) (fun _ _ _ h => h) (pureG (by rfl) (by intro w_; go_simp; first | done | with_reducible rfl)) ?_
      try simp only [Act.put, List.getElem_toArray, List.getElem_cons_succ, List.getElem_cons_zero, List.setIfInBounds_toArray, List.set_cons_zero, List.set_cons_succ]
      refine wpAnyL_take (fun _ _ hS_ hb_ => gr_bel hS_ hb_) (i := 2) rfl (by kernel_rfl) (fun _ _ _ h => h) (worldG (by rfl) (by intro w_ hS_; have q := (hS_.cell (World.block_lt_of_cell? w _ c0)).trans c0; go_simp; first | done | with_reducible rfl)) ?_
      try simp only [Act.put, List.getElem_toArray, List.getElem_cons_succ, List.getElem_cons_zero, List.setIfInBounds_toArray, List.set_cons_zero, List.set_cons_succ]
      refine wpAnyL_pure (fun _ _ hS_ hb_ => gr_bel hS_ hb_) (i := 3) rfl (by kernel_rfl) (fun _ _ _ h => h) (pureG (by rfl) (by intro w_; go_simp; first | done | with_reducible rfl)) ?_
      try simp only [Act.put, List.getElem_toArray, List.getElem_cons_succ, List.getElem_cons_zero, List.setIfInBounds_toArray, List.set_cons_zero, List.set_cons_succ]
      refine wpAnyL_pure (fun _ _ hS_ hb_ => gr_bel hS_ hb_) (i := 4) rfl (by kernel_rfl) (fun _ _ _ h => h) (pureG (by rfl) (by intro w_; go_simp; first | done | with_reducible rfl)) ?_
      try simp only [Act.put, List.getElem_toArray, List.getElem_cons_succ, List.getElem_cons_zero, List.setIfInBounds_toArray, List.set_cons_zero, List.set_cons_succ]
      refine wpAnyL_pure (fun _ _ hS_ hb_ => gr_bel hS_ hb_) (i := 5) rfl (by kernel_rfl) (fun _ _ _ h => h) (pureG (by rfl) (by intro w_; go_simp; first | done | with_reducible rfl)) ?_
      try simp only [Act.put, List.getElem_toArray, List.getElem_cons_succ, List.getElem_cons_zero, List.setIfInBounds_toArray, List.set_cons_zero, List.set_cons_succ]
      refine wpAnyL_take (fun _ _ hS_ hb_ => gr_bel hS_ hb_) (i := 6) rfl (by kernel_rfl) (fun _ _ _ h => h) (worldG (by rfl) (by intro w_ hS_; have q := (hS_.cell (World.block_lt_of_cell? w _ c1)).trans c1; go_simp; first | done | with_reducible rfl)) ?_
      try simp only [Act.put, List.getElem_toArray, List.getElem_cons_succ, List.getElem_cons_zero, List.setIfInBounds_toArray, List.set_cons_zero, List.set_cons_succ]
      refine wpAnyL_pure (fun _ _ hS_ hb_ => gr_bel hS_ hb_) (i := 7) rfl (by kernel_rfl) (fun _ _ _ h => h) (pureG (by rfl) (by intro w_; go_simp; first | done | with_reducible rfl)) ?_
      try simp only [Act.put, List.getElem_toArray, List.getElem_cons_succ, List.getElem_cons_zero, List.setIfInBounds_toArray, List.set_cons_zero, List.set_cons_succ]
      refine wpAnyL_pure (fun _ _ hS_ hb_ => gr_bel hS_ hb_) (i := 9) rfl (by kernel_rfl) (fun _ _ _ h => h) (pureG (by rfl) (by intro w_; go_simp; first | done | with_reducible rfl)) ?_
      try simp only [Act.put, List.getElem_toArray, List.getElem_cons_succ, List.getElem_cons_zero, List.setIfInBounds_toArray, List.set_cons_zero, List.set_cons_succ]
      refine wpAnyL_pure (fun _ _ hS_ hb_ => gr_bel hS_ hb_) (i := 10) rfl (by kernel_rfl) (fun _ _ _ h => h) (pureG (by rfl) (by intro w_; go_simp; first | done | with_reducible rfl)) ?_
      try simp only [Act.put, List.getElem_toArray, List.getElem_cons_succ, List.getElem_cons_zero, List.setIfInBounds_toArray, List.set_cons_zero, List.set_cons_succ]
      refine wpAnyL_one (i := 8) (by kernel_rfl) (by decide) fun W1 hg1 hS1 => ?_
      refine wpOp_run (i := 8) (v := .slice (some ⟨W1.heap.size, 0, none⟩) 1 1) (W2 := W1.alloc (.cells #[.int .u64 (f0 : Nat)] 23)) rfl (by rfl) (by go_simp; first | done | rfl) ?_
      refine ⟨hS1.alloc hS1.size _, ?_⟩
      try simp only [Act.put, List.getElem_toArray, List.getElem_cons_succ, List.getElem_cons_zero, List.setIfInBounds_toArray, List.set_cons_zero, List.set_cons_succ]
      refine wpAnyL_one (i := 11) (by kernel_rfl) (by decide) fun W2 hg2 hS2 => ?_
      refine wpOp_append_words (i := 11) rfl (by rfl) _ _ rfl w.heap.size (.slice (some ⟨W1.heap.size, 0, none⟩) 1 1) 1 [f0] rfl (own_below (ownsMono (litw W1 [f0] (by simp)) hS1.size) hg2) (some ⟨B, o + 2, none⟩) (n - 2) (c - 2) (l.drop 2) (by simp [Act.eval]) (HWD.out W2 hS2) (by omega) hS2.size fun v3 W3 ho3 hg3 => ?_
      obtain ⟨a3, c3, rfl⟩ := own_slice ho3
      refine ⟨hS2.grown hg3 hS2.size (fun x hx => by simp [Value.ownBlock] at hx; have := hS1.size; omega), ?_⟩
      try simp only [Act.put, List.getElem_toArray, List.getElem_cons_succ, List.getElem_cons_zero, List.setIfInBounds_toArray, List.set_cons_zero, List.set_cons_succ]
      refine wpAnyL_pure (fun _ _ hS_ hb_ => gr_bel hS_ hb_) (i := 12) rfl (by kernel_rfl) (fun _ _ _ h => h) (pureG (by rfl) (by intro w_; go_simp; first | done | with_reducible rfl)) ?_
      try simp only [Act.put, List.getElem_toArray, List.getElem_cons_succ, List.getElem_cons_zero, List.setIfInBounds_toArray, List.set_cons_zero, List.set_cons_succ]
      refine wpAnyL_done (by kernel_rfl) ?_ _
      intro W4 hgW4
      have hbW3 : Below w.heap.size w W3 := hS2.grown hg3 hS2.size (fun x hx => by simp [Value.ownBlock] at hx; have := hS1.size; omega)
      have hb4 : Below w.heap.size w W4 := hbW3.trans (Below.mono hgW4 hbW3.size)
      have ho4 := own_below ho3 hgW4
      have e5 : [f0] ++ l.drop 2 = fl l := hF.out.symm
      have e6 : 1 + (n - 2) = (fl l).length := by have := HLN.out; rw [← e5]; simp; omega
      rw [e5, e6] at ho4
      rw [e6]
      have hfl8 : ∀ x ∈ fl l, x < 18446744073709551616 := by rw [← e5]; intro x hx; rcases List.mem_append.1 hx with hx | hx; (simp at hx; omega); exact HIN.out.2.2.2.1 x (List.mem_of_mem_drop hx)
      have hlen : (fl l).length ≤ 1000 := by rw [← e6]; omega
      obtain ⟨a5, c5, e, hin4, _⟩ := ownw_in ho4 hfl8 (by omega)
      injection e with e1 e2 e3
      subst e1 e3
      have HIN4 := Lib.hid hin4
      have HB4 := Lib.hid hb4
      have HP := Lib.hid (show (fl l).length = 0 ∨ True from .inr trivial)
      obtain ⟨B5, o5, rfl, hc5⟩ := hin4.2.2.2.2.2.2.resolve_left (by rw [← e6]; omega)
      have HC5 := Lib.hid (fun wx (h : Below W4.heap.size W4 wx) i hi => (h.cell (World.block_lt_of_cell? W4 _ (hc5 i hi))).trans (hc5 i hi))
      have HFL := Lib.hid (show ∀ x ∈ fl l, x < 18446744073709551616 from hfl8)
      have HOK := Lib.hid (show (∀ x ∈ fl l, x ≤ 4294967295) → oidOk l = true from fun h => decide_eq_true ⟨by rw [HLN.out]; omega, by rw [HLN.out]; omega, by rw [HX0.out]; omega, by rw [HX0.out, HX1.out]; have := HD.out; omega, by rw [HX0.out, HX1.out, HF0.out]; exact h f0 (by rw [← e5]; simp), fun x hx => h x (by rw [← e5]; simp [hx])⟩)
      have HNO := Lib.hid (show ∀ x ∈ fl l, ¬ x ≤ 4294967295 → oidOk l = false from fun x hx hn => oid_no (fun hh => hn (by rw [← e5] at hx; rcases List.mem_append.1 hx with h1 | h1; (simp at h1; subst h1; have := hh.2.2.2.2.1; rw [HX0.out, HX1.out, HF0.out] at this; exact this); exact hh.2.2.2.2.2 x h1)))
      have hfm : ((fl l).length : Int) ≤ 1000 := by omega
      clear ho4 hin4 hc5 hb4 hgW4 hbW3 ho3 hg3 hg2 hg1 e5 e6 hfl8 e2 hF
      generalize hfl : fl l = F at *
      have HFE := Lib.hid hfl
      obtain ⟨m, hm2⟩ : ∃ m, F.length = m := ⟨_, rfl⟩
      have HML := Lib.hid hm2
      rw [hm2] at HIN4 HC5 hfm hlen ⊢
      clear hfl hm2
      go_wp2_with fail
      go_loopw [5, 48] (fun f i wr => ∃ q, q ≤ m ∧ i = .int .i64 (q : Nat) ∧ (∀ x, x < q → F.getD x 0 ≤ 4294967295) ∧ Below W4.heap.size W4 wr) (fun _ i _ => m - (intOf i).toNat)
      case atStart => exact ⟨0, Nat.zero_le _, rfl, fun x hx => by omega, Below.refl _ _⟩
      case round =>
        obtain ⟨q, hq, rfl, hall, hbel⟩ := hrel
        have HA := Lib.hid hall
        have HBW := Lib.hid (HB4.out.trans (hbel.mono HB4.out.size))
        clear hall
        by_cases hqm : q < m
        · have hqi : (q : Int) < (m : Int) := by omega
          have cq := HC5.out wr hbel q hqm
          have hx8 := getD_ltw HFL.out q
          have HMEM := Lib.hid (show F.getD q 0 ∈ F by rw [List.getD_eq_getElem?_getD, List.getElem?_eq_getElem (by rw [HML.out]; exact hqm)]; exact List.getElem_mem _)
          by_cases hbig : 4294967295 < F.getD q 0
          · have hX := Lib.hid (HNO.out _ HMEM.out (by omega))
            have hbi : (4294967295 : Int) < (F.getD q 0 : Nat) := by omega
            generalize F.getD q 0 = y at *
            go_wp2_with fail
            go_ret2
            exact FigsIs.bad hX.out HBW.out
          · have hbi : ¬ (4294967295 : Int) < (F.getD q 0 : Nat) := by omega
            have HA2 := Lib.hid (show ∀ x, x < q + 1 → F.getD x 0 ≤ 4294967295 from fun x hx => by rcases Nat.lt_or_ge x q with h | h; exact HA.out x h; (obtain rfl : x = q := by omega); omega)
            generalize F.getD q 0 = y at *
            go_wp2_with fail
            go_roundw
            case rel => exact ⟨q + 1, by omega, by go_num, HA2.out, hbel⟩
            case measure => simp [intOf]; omega
        · have hqi : ¬ (q : Int) < (m : Int) := by omega
          have hOK := Lib.hid (HOK.out (fun x hx => by obtain ⟨j, hj, rfl⟩ := List.getElem_of_mem hx; have := HA.out j (by rw [HML.out] at hj; omega); rwa [List.getD_eq_getElem?_getD, List.getElem?_eq_getElem hj] at this))
          have HI5 := Lib.hid (HIN4.out.below hbel)
          have HFE2 := Lib.hid (show m = (fl l).length by rw [HFE.out, HML.out])
          go_wp2_with fail
          go_ret2
          refine ⟨HBW.out, .inr ⟨hOK.out, some ⟨B5, o5, none⟩, c3, by first | (rw [← HFE2.out]; done) | (rw [← HFE2.out]; rfl), ?_⟩⟩
          rw [← HFE2.out, HFE.out]
          exact HI5.out
    · have he1 : ((x0 : Int) != 2) = true := by simp; omega
      have he2 : ¬ (40 : Int) ≤ (x1 : Int) := by omega
      clear hd hm he
      have HWD := Lib.hid (fun W (hS : Below w.heap.size w W) => (HIN.out.below hS).drop (f := 2) (by omega) (some ⟨B, o + 2, none⟩) (.inr rfl))
      go_enter Tryz.func115, Tryz.ntmps115
      go_wp2_with fail
      refine wp_region_L (fun w_ => Below w.heap.size w w_) [] [0, 1, 3, 4, 5, 7, 9, 10, 12] (by kernel_rfl) (Below.refl _ _).drew ?_
      refine wpAnyL_pure (fun _ _ hS_ hb_ => gr_bel hS_ hb_) (i := 0) rfl (by kernel_rfl) (fun _ _ _ h => h) (pureG (by rfl) (by intro w_; go_simp; first | done | with_reducible rfl)) ?_
      try simp only [Act.put, List.getElem_toArray, List.getElem_cons_succ, List.getElem_cons_zero, List.setIfInBounds_toArray, List.set_cons_zero, List.set_cons_succ]
      refine wpAnyL_pure (fun _ _ hS_ hb_ => gr_bel hS_ hb_) (i := 1) rfl (by kernel_rfl) (fun _ _ _ h => h) (pureG (by rfl) (by intro w_; go_simp; first | done | with_reducible rfl)) ?_
      try simp only [Act.put, List.getElem_toArray, List.getElem_cons_succ, List.getElem_cons_zero, List.setIfInBounds_toArray, List.set_cons_zero, List.set_cons_succ]
      refine wpAnyL_take (fun _ _ hS_ hb_ => gr_bel hS_ hb_) (i := 2) rfl (by kernel_rfl) (fun _ _ _ h => h) (worldG (by rfl) (by intro w_ hS_; have q := (hS_.cell (World.block_lt_of_cell? w _ c0)).trans c0; go_simp; first | done | with_reducible rfl)) ?_
      try simp only [Act.put, List.getElem_toArray, List.getElem_cons_succ, List.getElem_cons_zero, List.setIfInBounds_toArray, List.set_cons_zero, List.set_cons_succ]
      refine wpAnyL_pure (fun _ _ hS_ hb_ => gr_bel hS_ hb_) (i := 3) rfl (by kernel_rfl) (fun _ _ _ h => h) (pureG (by rfl) (by intro w_; go_simp; first | done | with_reducible rfl)) ?_
      try simp only [Act.put, List.getElem_toArray, List.getElem_cons_succ, List.getElem_cons_zero, List.setIfInBounds_toArray, List.set_cons_zero, List.set_cons_succ]
      refine wpAnyL_pure (fun _ _ hS_ hb_ => gr_bel hS_ hb_) (i := 4) rfl (by kernel_rfl) (fun _ _ _ h => h) (pureG (by rfl) (by intro w_; go_simp; first | done | with_reducible rfl)) ?_
      try simp only [Act.put, List.getElem_toArray, List.getElem_cons_succ, List.getElem_cons_zero, List.setIfInBounds_toArray, List.set_cons_zero, List.set_cons_succ]
      refine wpAnyL_pure (fun _ _ hS_ hb_ => gr_bel hS_ hb_) (i := 5) rfl (by kernel_rfl) (fun _ _ _ h => h) (pureG (by rfl) (by intro w_; go_simp; first | done | with_reducible rfl)) ?_
      try simp only [Act.put, List.getElem_toArray, List.getElem_cons_succ, List.getElem_cons_zero, List.setIfInBounds_toArray, List.set_cons_zero, List.set_cons_succ]
      refine wpAnyL_take (fun _ _ hS_ hb_ => gr_bel hS_ hb_) (i := 6) rfl (by kernel_rfl) (fun _ _ _ h => h) (worldG (by rfl) (by intro w_ hS_; have q := (hS_.cell (World.block_lt_of_cell? w _ c1)).trans c1; go_simp; first | done | with_reducible rfl)) ?_
      try simp only [Act.put, List.getElem_toArray, List.getElem_cons_succ, List.getElem_cons_zero, List.setIfInBounds_toArray, List.set_cons_zero, List.set_cons_succ]
      refine wpAnyL_pure (fun _ _ hS_ hb_ => gr_bel hS_ hb_) (i := 7) rfl (by kernel_rfl) (fun _ _ _ h => h) (pureG (by rfl) (by intro w_; go_simp; first | done | with_reducible rfl)) ?_
      try simp only [Act.put, List.getElem_toArray, List.getElem_cons_succ, List.getElem_cons_zero, List.setIfInBounds_toArray, List.set_cons_zero, List.set_cons_succ]
      refine wpAnyL_pure (fun _ _ hS_ hb_ => gr_bel hS_ hb_) (i := 9) rfl (by kernel_rfl) (fun _ _ _ h => h) (pureG (by rfl) (by intro w_; go_simp; first | done | with_reducible rfl)) ?_
      try simp only [Act.put, List.getElem_toArray, List.getElem_cons_succ, List.getElem_cons_zero, List.setIfInBounds_toArray, List.set_cons_zero, List.set_cons_succ]
      refine wpAnyL_pure (fun _ _ hS_ hb_ => gr_bel hS_ hb_) (i := 10) rfl (by kernel_rfl) (fun _ _ _ h => h) (pureG (by rfl) (by intro w_; go_simp; first | done | with_reducible rfl)) ?_
      try simp only [Act.put, List.getElem_toArray, List.getElem_cons_succ, List.getElem_cons_zero, List.setIfInBounds_toArray, List.set_cons_zero, List.set_cons_succ]
      refine wpAnyL_one (i := 8) (by kernel_rfl) (by decide) fun W1 hg1 hS1 => ?_
      refine wpOp_run (i := 8) (v := .slice (some ⟨W1.heap.size, 0, none⟩) 1 1) (W2 := W1.alloc (.cells #[.int .u64 (f0 : Nat)] 23)) rfl (by rfl) (by go_simp; first | done | rfl) ?_
      refine ⟨hS1.alloc hS1.size _, ?_⟩
      try simp only [Act.put, List.getElem_toArray, List.getElem_cons_succ, List.getElem_cons_zero, List.setIfInBounds_toArray, List.set_cons_zero, List.set_cons_succ]
      refine wpAnyL_one (i := 11) (by kernel_rfl) (by decide) fun W2 hg2 hS2 => ?_
      refine wpOp_append_words (i := 11) rfl (by rfl) _ _ rfl w.heap.size (.slice (some ⟨W1.heap.size, 0, none⟩) 1 1) 1 [f0] rfl (own_below (ownsMono (litw W1 [f0] (by simp)) hS1.size) hg2) (some ⟨B, o + 2, none⟩) (n - 2) (c - 2) (l.drop 2) (by simp [Act.eval]) (HWD.out W2 hS2) (by omega) hS2.size fun v3 W3 ho3 hg3 => ?_
      obtain ⟨a3, c3, rfl⟩ := own_slice ho3
      refine ⟨hS2.grown hg3 hS2.size (fun x hx => by simp [Value.ownBlock] at hx; have := hS1.size; omega), ?_⟩
      try simp only [Act.put, List.getElem_toArray, List.getElem_cons_succ, List.getElem_cons_zero, List.setIfInBounds_toArray, List.set_cons_zero, List.set_cons_succ]
      refine wpAnyL_pure (fun _ _ hS_ hb_ => gr_bel hS_ hb_) (i := 12) rfl (by kernel_rfl) (fun _ _ _ h => h) (pureG (by rfl) (by intro w_; go_simp; first | done | with_reducible rfl)) ?_
      try simp only [Act.put, List.getElem_toArray, List.getElem_cons_succ, List.getElem_cons_zero, List.setIfInBounds_toArray, List.set_cons_zero, List.set_cons_succ]
      refine wpAnyL_done (by kernel_rfl) ?_ _
      intro W4 hgW4
      have hbW3 : Below w.heap.size w W3 := hS2.grown hg3 hS2.size (fun x hx => by simp [Value.ownBlock] at hx; have := hS1.size; omega)
      have hb4 : Below w.heap.size w W4 := hbW3.trans (Below.mono hgW4 hbW3.size)
      have ho4 := own_below ho3 hgW4
      have e5 : [f0] ++ l.drop 2 = fl l := hF.out.symm
      have e6 : 1 + (n - 2) = (fl l).length := by have := HLN.out; rw [← e5]; simp; omega
      rw [e5, e6] at ho4
      rw [e6]
      have hfl8 : ∀ x ∈ fl l, x < 18446744073709551616 := by rw [← e5]; intro x hx; rcases List.mem_append.1 hx with hx | hx; (simp at hx; omega); exact HIN.out.2.2.2.1 x (List.mem_of_mem_drop hx)
      have hlen : (fl l).length ≤ 1000 := by rw [← e6]; omega
      obtain ⟨a5, c5, e, hin4, _⟩ := ownw_in ho4 hfl8 (by omega)
      injection e with e1 e2 e3
      subst e1 e3
      have HIN4 := Lib.hid hin4
      have HB4 := Lib.hid hb4
      have HP := Lib.hid (show (fl l).length = 0 ∨ True from .inr trivial)
      obtain ⟨B5, o5, rfl, hc5⟩ := hin4.2.2.2.2.2.2.resolve_left (by rw [← e6]; omega)
      have HC5 := Lib.hid (fun wx (h : Below W4.heap.size W4 wx) i hi => (h.cell (World.block_lt_of_cell? W4 _ (hc5 i hi))).trans (hc5 i hi))
      have HFL := Lib.hid (show ∀ x ∈ fl l, x < 18446744073709551616 from hfl8)
      have HOK := Lib.hid (show (∀ x ∈ fl l, x ≤ 4294967295) → oidOk l = true from fun h => decide_eq_true ⟨by rw [HLN.out]; omega, by rw [HLN.out]; omega, by rw [HX0.out]; omega, by rw [HX0.out, HX1.out]; have := HD.out; omega, by rw [HX0.out, HX1.out, HF0.out]; exact h f0 (by rw [← e5]; simp), fun x hx => h x (by rw [← e5]; simp [hx])⟩)
      have HNO := Lib.hid (show ∀ x ∈ fl l, ¬ x ≤ 4294967295 → oidOk l = false from fun x hx hn => oid_no (fun hh => hn (by rw [← e5] at hx; rcases List.mem_append.1 hx with h1 | h1; (simp at h1; subst h1; have := hh.2.2.2.2.1; rw [HX0.out, HX1.out, HF0.out] at this; exact this); exact hh.2.2.2.2.2 x h1)))
      have hfm : ((fl l).length : Int) ≤ 1000 := by omega
      clear ho4 hin4 hc5 hb4 hgW4 hbW3 ho3 hg3 hg2 hg1 e5 e6 hfl8 e2 hF
      generalize hfl : fl l = F at *
      have HFE := Lib.hid hfl
      obtain ⟨m, hm2⟩ : ∃ m, F.length = m := ⟨_, rfl⟩
      have HML := Lib.hid hm2
      rw [hm2] at HIN4 HC5 hfm hlen ⊢
      clear hfl hm2
      go_wp2_with fail
      go_loopw [5, 48] (fun f i wr => ∃ q, q ≤ m ∧ i = .int .i64 (q : Nat) ∧ (∀ x, x < q → F.getD x 0 ≤ 4294967295) ∧ Below W4.heap.size W4 wr) (fun _ i _ => m - (intOf i).toNat)
      case atStart => exact ⟨0, Nat.zero_le _, rfl, fun x hx => by omega, Below.refl _ _⟩
      case round =>
        obtain ⟨q, hq, rfl, hall, hbel⟩ := hrel
        have HA := Lib.hid hall
        have HBW := Lib.hid (HB4.out.trans (hbel.mono HB4.out.size))
        clear hall
        by_cases hqm : q < m
        · have hqi : (q : Int) < (m : Int) := by omega
          have cq := HC5.out wr hbel q hqm
          have hx8 := getD_ltw HFL.out q
          have HMEM := Lib.hid (show F.getD q 0 ∈ F by rw [List.getD_eq_getElem?_getD, List.getElem?_eq_getElem (by rw [HML.out]; exact hqm)]; exact List.getElem_mem _)
          by_cases hbig : 4294967295 < F.getD q 0
          · have hX := Lib.hid (HNO.out _ HMEM.out (by omega))
            have hbi : (4294967295 : Int) < (F.getD q 0 : Nat) := by omega
            generalize F.getD q 0 = y at *
            go_wp2_with fail
            go_ret2
            exact FigsIs.bad hX.out HBW.out
          · have hbi : ¬ (4294967295 : Int) < (F.getD q 0 : Nat) := by omega
            have HA2 := Lib.hid (show ∀ x, x < q + 1 → F.getD x 0 ≤ 4294967295 from fun x hx => by rcases Nat.lt_or_ge x q with h | h; exact HA.out x h; (obtain rfl : x = q := by omega); omega)
            generalize F.getD q 0 = y at *
            go_wp2_with fail
            go_roundw
            case rel => exact ⟨q + 1, by omega, by go_num, HA2.out, hbel⟩
            case measure => simp [intOf]; omega
        · have hqi : ¬ (q : Int) < (m : Int) := by omega
          have hOK := Lib.hid (HOK.out (fun x hx => by obtain ⟨j, hj, rfl⟩ := List.getElem_of_mem hx; have := HA.out j (by rw [HML.out] at hj; omega); rwa [List.getD_eq_getElem?_getD, List.getElem?_eq_getElem hj] at this))
          have HI5 := Lib.hid (HIN4.out.below hbel)
          have HFE2 := Lib.hid (show m = (fl l).length by rw [HFE.out, HML.out])
          go_wp2_with fail
          go_ret2
          refine ⟨HBW.out, .inr ⟨hOK.out, some ⟨B5, o5, none⟩, c3, by first | (rw [← HFE2.out]; done) | (rw [← HFE2.out]; rfl), ?_⟩⟩
          rw [← HFE2.out, HFE.out]
          exact HI5.out
end Go.Proofs.YtbabpmncdphnjaaGreat
