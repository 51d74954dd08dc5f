/- OID: the project's. No condition. -/
import Derived.Test.YtbabpmncdphnjaaFs
namespace Go.Proofs.Ytbabpmncdphnjaa
open Go.RowKit
set_option linter.unusedVariables false
set_option maxRecDepth 100000
set_option linter.unusedSimpArgs false

/-- what OID answers -/
def OidIs (R : Except Nat (List Nat)) (w : World) (e : Ending) (w' : World) : Prop :=
  Below w.heap.size w w' ∧ match R with
  | .error x => e = .returned (.tuple #[.slice none 0 0, .int .i64 (x : Nat)])
  | .ok l => ∃ a c, e = .returned (.tuple #[.slice a l.length c, .int .i64 0]) ∧ WIn w' a l.length c l
theorem OidIs.err {R : Except Nat (List Nat)} {w w' : World} {x : Nat} (h : R = .error x) (hb : Below w.heap.size w w') : OidIs R w (.returned (.tuple #[.slice none 0 0, .int .i64 (x : Nat)])) w' := by subst h; exact ⟨hb, rfl⟩
theorem OidIs.good {R : Except Nat (List Nat)} {w w' : World} {l : List Nat} (h : R = .ok l) (hb : Below w.heap.size w w') {a : Option Addr} {n c : Nat} (hn : l.length = n) (hi : WIn w' a n c l) : OidIs R w (.returned (.tuple #[.slice a n c, .int .i64 0])) w' := by
  subst h hn; exact ⟨hb, a, c, rfl, hi⟩
theorem lit2 (w : World) (x y : Nat) : (w.alloc (.cells #[.int .u64 (x : Nat), .int .u64 (y : Nat)] 39)).ownsRow w.heap.size 39 1 (.slice (some ⟨w.heap.size, 0, none⟩) 2 2) 2 (wordsV [x, y]) := litw w [x, y] (by simp)

set_option maxHeartbeats 4000000 in
theorem OID_any (w : World) (t : Nat) (b : List Nat) (k : Tr) (a : Option Addr) (c : Nat) (a' : Option Addr) (c' : Nat) (hin : ItIn w t a c a' c' b k) :
    Calls Try.prog 27 #[itV t a b.length c a' k.len c'] w (OidIs (oidE t b k) w) := by
  obtain ⟨ht, hb, hk⟩ := hin
  have h0 : ∀ o, Below w.heap.size w (w.alloc o) := fun o => (Below.refl _ w).alloc (Nat.le_refl _) o
  have hs0 : ∀ o, w.heap.size ≤ (w.alloc o).heap.size := fun o => by simp
  by_cases h3 : t = 6
  · subst h3
    by_cases hkl : k.len = 0
    · rw [hkl]
      have HBB := Lib.hid (fun wx (h : Below w.heap.size w wx) => hb.below h)
      have H8 := Lib.hid (show ∀ x ∈ b, x < 256 from hb.1.2.2.1)
      cases hf : rdFs b with
      | none =>
        have HX := Lib.hid (show oidE 6 b k = .error 127 by simp only [oidE]; rw [if_neg (by simp), if_neg (by simp [hkl]), hf])
        have HC := Lib.hid (fun wx (h : Below w.heap.size w wx) => (readFigures_any wx a b.length c b (HBB.out wx h)).mono (fun e w' h => (by rw [hf] at h; exact ⟨h.2, h.1⟩ : (∃ v, e = .returned (.tuple #[v, .bool false])) ∧ Below wx.heap.size wx w')))
        clear hb hk hf
        generalize b.length = bn at *
        go_enter Try.func27, Try.ntmps27
        go_wp2_with (first | (go_at_call 57; refine (bodyOf_ok 6 _ _ _ _ _ _).mono ?_; rintro e w1 ⟨rfl, hb1⟩; have hbw := Lib.hid ((h0 _).trans (hb1.mono (hs0 _)))) | (go_at_call 59; (refine (HC.out _ hbw.out).mono ?_); rintro e w2 ⟨⟨v2, rfl⟩, hb2⟩))
        go_ret2
        exact OidIs.err HX.out (hbw.out.trans (hb2.mono hbw.out.size))
      | some F =>
        obtain ⟨hF1, hF2, hF3, hF4⟩ := (rdFs_iff H8.out).1 hf
        have HX := Lib.hid (show oidE 6 b k = .ok (unf F) by simp only [oidE]; rw [if_neg (by simp), if_neg (by simp [hkl]), hf])
        have HC := Lib.hid (fun wx (h : Below w.heap.size w wx) => (readFigures_any wx a b.length c b (HBB.out wx h)).mono (fun e w' h => (by rw [hf] at h; obtain ⟨a1, c1, h1, h2⟩ := h.2; exact ⟨a1, c1, h1, h2, h.1⟩ : ∃ a1 c1, e = .returned (.tuple #[.slice a1 F.length c1, .bool true]) ∧ WIn w' a1 F.length c1 F ∧ Below wx.heap.size wx w')))
        have HF3 := Lib.hid hF3
        have hFp := List.length_pos_iff.2 hF1
        have hxm : F.getD 0 0 ≤ 4294967295 := by
          match F, hF1, hF3 with
          | f :: r, _, hF3 => exact hF3 f (by simp)
        clear hb hk hf hF4 hF3 hF1
        generalize b.length = bn at *
        obtain ⟨n, hn⟩ : ∃ n, F.length = n := ⟨_, rfl⟩
        have HN := Lib.hid hn
        rw [hn] at HC hFp hF2
        clear hn
        obtain ⟨f, hff⟩ : ∃ f, F.getD 0 0 = f := ⟨_, rfl⟩
        have HFF := Lib.hid hff
        rw [hff] at hxm
        clear hff
        have hnp : (0 : Int) < (n : Int) := by omega
        have hn1 : (1 : Int) ≤ (n : Int) := by omega
        obtain ⟨m1, hm1⟩ : ∃ m, min (f / 40) 2 = m := ⟨_, rfl⟩
        obtain ⟨p1, hp1⟩ : ∃ p, 40 * m1 = p := ⟨_, rfl⟩
        obtain ⟨s1, hs1⟩ : ∃ s, f - p1 = s := ⟨_, rfl⟩
        have hwm : IntKind.u64.wrap ((m1 : Int) * 40) = (p1 : Int) := by rw [show (m1 : Int) * 40 = ((p1 : Nat) : Int) by omega]; exact wrapu (by omega)
        have hws : IntKind.u64.wrap ((f : Int) - (p1 : Int)) = (s1 : Int) := by rw [show (f : Int) - (p1 : Int) = ((s1 : Nat) : Int) by omega]; exact wrapu (by omega)
        have HU := Lib.hid (show unf F = [m1, s1] ++ F.drop 1 by unfold unf; rw [HFF.out, hm1, hp1, hs1]; rfl)
        have HM1 := Lib.hid hm1
        have hm2 : m1 ≤ 2 := by omega
        have hs8 : s1 ≤ 4294967295 := by omega
        obtain ⟨q, hq⟩ : ∃ q, f / 40 = q := ⟨_, rfl⟩
        have hqi : (f : Int) / 40 = (q : Int) := by omega
        have hqm : min q 2 = m1 := by omega
        have hq8 : q ≤ 4294967295 := by omega
        have HP1 := Lib.hid hp1
        clear hm1 hp1 hs1 hq
        have hmin : min (q : Int) 2 = (m1 : Int) := by omega
        clear hqm
        go_enter Try.func27, Try.ntmps27
        go_wp2_with (first | (go_at_call 57; refine (bodyOf_ok 6 _ _ _ _ _ _).mono ?_; rintro e w1 ⟨rfl, hb1⟩; have hbw := Lib.hid ((h0 _).trans (hb1.mono (hs0 _)))) | (go_at_call 59; (refine (HC.out _ hbw.out).mono ?_); rintro e w2 ⟨a2, c2, rfl, hw2, hb2⟩; have HW2 := Lib.hid hw2; have H2 := Lib.hid (hbw.out.trans (hb2.mono hbw.out.size)); obtain ⟨B, o, rfl, hc2⟩ := hw2.2.2.2.2.2.2.resolve_left (by omega); have k0 := hc2 0 hFp; rw [Nat.add_zero, HFF.out] at k0; have hcn2 := hw2.2.1; clear hc2 hw2))
        by_cases hc1 : c2 = 1
        · subst hc1
          obtain rfl : n = 1 := by omega
          have HWD := Lib.hid (fun W hS => by have := (HW2.out.below hS).drop (f := 1) (by omega) (some ⟨B, o, none⟩) (.inl ⟨rfl, by omega⟩); simpa using this : ∀ W, Below w2.heap.size w2 W → WIn W (some ⟨B, o, none⟩) 0 0 (F.drop 1))
          refine wp_region_L (fun w_ => Below w2.heap.size w2 w_) [] [0, 1, 2, 4, 5, 6, 8, 9, 11, 12] (by kernel_rfl) (Below.refl _ _).drew ?_
          refine wpAnyL_pure (fun _ _ hS_ hb_ => gr_bel hS_ hb_) (i := 0) rfl (by kernel_rfl) (fun _ _ _ h => h) (pureG (by rfl) (by intro w_; go_simp; first | done | with_reducible rfl)) ?_
          try simp only [Act.put, List.getElem_toArray, List.getElem_cons_succ, List.getElem_cons_zero, List.setIfInBounds_toArray, List.set_cons_zero, List.set_cons_succ]
          refine wpAnyL_pure (fun _ _ hS_ hb_ => gr_bel hS_ hb_) (i := 1) rfl (by kernel_rfl) (fun _ _ _ h => h) (pureG (by rfl) (by intro w_; go_simp; first | done | with_reducible rfl)) ?_
          try simp only [Act.put, List.getElem_toArray, List.getElem_cons_succ, List.getElem_cons_zero, List.setIfInBounds_toArray, List.set_cons_zero, List.set_cons_succ]
          refine wpAnyL_pure (fun _ _ hS_ hb_ => gr_bel hS_ hb_) (i := 2) rfl (by kernel_rfl) (fun _ _ _ h => h) (pureG (by rfl) (by intro w_; go_simp; first | done | with_reducible rfl)) ?_
          try simp only [Act.put, List.getElem_toArray, List.getElem_cons_succ, List.getElem_cons_zero, List.setIfInBounds_toArray, List.set_cons_zero, List.set_cons_succ]
          refine wpAnyL_take (fun _ _ hS_ hb_ => gr_bel hS_ hb_) (i := 3) rfl (by kernel_rfl) (fun _ _ _ h => h) (worldG (by rfl) (by intro w_ hS_; have q := (hS_.cell (World.block_lt_of_cell? w2 _ k0)).trans k0; go_simp; first | done | with_reducible rfl)) ?_
          try simp only [Act.put, List.getElem_toArray, List.getElem_cons_succ, List.getElem_cons_zero, List.setIfInBounds_toArray, List.set_cons_zero, List.set_cons_succ]
          refine wpAnyL_pure (fun _ _ hS_ hb_ => gr_bel hS_ hb_) (i := 4) rfl (by kernel_rfl) (fun _ _ _ h => h) (pureG (by rfl) (by intro w_; go_simp; first | done | with_reducible rfl)) ?_
          try simp only [Act.put, List.getElem_toArray, List.getElem_cons_succ, List.getElem_cons_zero, List.setIfInBounds_toArray, List.set_cons_zero, List.set_cons_succ]
          refine wpAnyL_pure (fun _ _ hS_ hb_ => gr_bel hS_ hb_) (i := 5) rfl (by kernel_rfl) (fun _ _ _ h => h) (pureG (by rfl) (by intro w_; go_simp; first | done | with_reducible rfl)) ?_
          try simp only [Act.put, List.getElem_toArray, List.getElem_cons_succ, List.getElem_cons_zero, List.setIfInBounds_toArray, List.set_cons_zero, List.set_cons_succ]
          refine wpAnyL_pure (fun _ _ hS_ hb_ => gr_bel hS_ hb_) (i := 6) rfl (by kernel_rfl) (fun _ _ _ h => h) (pureG (by rfl) (by intro w_; go_simp; first | done | with_reducible rfl)) ?_
          try simp only [Act.put, List.getElem_toArray, List.getElem_cons_succ, List.getElem_cons_zero, List.setIfInBounds_toArray, List.set_cons_zero, List.set_cons_succ]
          refine wpAnyL_pure (fun _ _ hS_ hb_ => gr_bel hS_ hb_) (i := 8) rfl (by kernel_rfl) (fun _ _ _ h => h) (pureG (by rfl) (by intro w_; go_simp; first | done | with_reducible rfl)) ?_
          try simp only [Act.put, List.getElem_toArray, List.getElem_cons_succ, List.getElem_cons_zero, List.setIfInBounds_toArray, List.set_cons_zero, List.set_cons_succ]
          refine wpAnyL_pure (fun _ _ hS_ hb_ => gr_bel hS_ hb_) (i := 9) rfl (by kernel_rfl) (fun _ _ _ h => h) (pureG (by rfl) (by intro w_; go_simp; first | done | with_reducible rfl)) ?_
          try simp only [Act.put, List.getElem_toArray, List.getElem_cons_succ, List.getElem_cons_zero, List.setIfInBounds_toArray, List.set_cons_zero, List.set_cons_succ]
          refine wpAnyL_one (i := 7) (by kernel_rfl) (by decide) fun W1 hg1 hS1 => ?_
          refine wpOp_run (i := 7) (v := .slice (some ⟨W1.heap.size, 0, none⟩) 2 2) (W2 := W1.alloc (.cells #[.int .u64 (m1 : Nat), .int .u64 (s1 : Nat)] 39)) rfl (by rfl) (by go_simp; first | done | rfl) ?_
          refine ⟨hS1.alloc hS1.size _, ?_⟩
          try simp only [Act.put, List.getElem_toArray, List.getElem_cons_succ, List.getElem_cons_zero, List.setIfInBounds_toArray, List.set_cons_zero, List.set_cons_succ]
          refine wpAnyL_one (i := 10) (by kernel_rfl) (by decide) fun W2 hg2 hS2 => ?_
          refine wpOp_append_words (i := 10) rfl (by rfl) _ _ rfl w.heap.size (.slice (some ⟨W1.heap.size, 0, none⟩) 2 2) 2 [m1, s1] rfl (own_below (ownsMono (lit2 W1 m1 s1) (Nat.le_trans H2.out.size hS1.size)) hg2) (some ⟨B, o, none⟩) 0 0 (F.drop 1) (by simp [Act.eval]) (HWD.out W2 hS2) (by omega) (Nat.le_trans H2.out.size hS2.size) fun v3 W3 ho3 hg3 => ?_
          obtain ⟨a3, c3, rfl⟩ := own_slice ho3
          have hbW3 : Below w.heap.size w W3 := (H2.out.trans (Below.mono hS2 H2.out.size)).grown hg3 (Nat.le_trans H2.out.size hS2.size) (fun x hx => by simp [Value.ownBlock] at hx; have := H2.out.size; have := hS1.size; omega)
          refine ⟨hS2.grown hg3 hS2.size (fun x hx => by simp [Value.ownBlock] at hx; have := hS1.size; omega), ?_⟩
          try simp only [Act.put, List.getElem_toArray, List.getElem_cons_succ, List.getElem_cons_zero, List.setIfInBounds_toArray, List.set_cons_zero, List.set_cons_succ]
          refine wpAnyL_pure (fun _ _ hS_ hb_ => gr_bel hS_ hb_) (i := 11) rfl (by kernel_rfl) (fun _ _ _ h => h) (pureG (by rfl) (by intro w_; go_simp; first | done | with_reducible rfl)) ?_
          try simp only [Act.put, List.getElem_toArray, List.getElem_cons_succ, List.getElem_cons_zero, List.setIfInBounds_toArray, List.set_cons_zero, List.set_cons_succ]
          refine wpAnyL_pure (fun _ _ hS_ hb_ => gr_bel hS_ hb_) (i := 12) rfl (by kernel_rfl) (fun _ _ _ h => h) (pureG (by rfl) (by intro w_; go_simp; first | done | with_reducible rfl)) ?_
          try simp only [Act.put, List.getElem_toArray, List.getElem_cons_succ, List.getElem_cons_zero, List.setIfInBounds_toArray, List.set_cons_zero, List.set_cons_succ]
          refine wpAnyL_done (by kernel_rfl) ?_ _
          intro W4 hgW4
          have ho4 := own_below ho3 hgW4
          have hb4 : Below w.heap.size w W4 := hbW3.trans (Below.mono hgW4 hbW3.size)
          rw [← HU.out] at ho4
          have e6 : (unf F).length = 2 + 0 := by have := HN.out; rw [HU.out]; simp <;> omega
          have hu8 : ∀ x ∈ unf F, x < 18446744073709551616 := by rw [HU.out]; intro x hx; rcases List.mem_append.1 hx with hx | hx; (simp at hx; omega); (have := HF3.out x (List.mem_of_mem_drop hx); omega)
          obtain ⟨a5, c5, e, hin4, _⟩ := ownw_in ho4 hu8 (by omega)
          injection e with e1 e2 e3
          subst e1 e3
          have HI4 := Lib.hid hin4
          have HE6 := Lib.hid e6
          have HB4 := Lib.hid hb4
          go_wp2_with fail
          go_ret2
          exact OidIs.good HX.out HB4.out HE6.out HI4.out
        · have HWD := Lib.hid (fun W (hS : Below w2.heap.size w2 W) => (HW2.out.below hS).drop (f := 1) (by omega) (some ⟨B, o + 1, none⟩) (.inr rfl))
          refine wp_region_L (fun w_ => Below w2.heap.size w2 w_) [] [0, 1, 2, 4, 5, 6, 8, 9, 11, 12] (by kernel_rfl) (Below.refl _ _).drew ?_
          refine wpAnyL_pure (fun _ _ hS_ hb_ => gr_bel hS_ hb_) (i := 0) rfl (by kernel_rfl) (fun _ _ _ h => h) (pureG (by rfl) (by intro w_; go_simp; first | done | with_reducible rfl)) ?_
          try simp only [Act.put, List.getElem_toArray, List.getElem_cons_succ, List.getElem_cons_zero, List.setIfInBounds_toArray, List.set_cons_zero, List.set_cons_succ]
          refine wpAnyL_pure (fun _ _ hS_ hb_ => gr_bel hS_ hb_) (i := 1) rfl (by kernel_rfl) (fun _ _ _ h => h) (pureG (by rfl) (by intro w_; go_simp; first | done | with_reducible rfl)) ?_
          try simp only [Act.put, List.getElem_toArray, List.getElem_cons_succ, List.getElem_cons_zero, List.setIfInBounds_toArray, List.set_cons_zero, List.set_cons_succ]
          refine wpAnyL_pure (fun _ _ hS_ hb_ => gr_bel hS_ hb_) (i := 2) rfl (by kernel_rfl) (fun _ _ _ h => h) (pureG (by rfl) (by intro w_; go_simp; first | done | with_reducible rfl)) ?_
          try simp only [Act.put, List.getElem_toArray, List.getElem_cons_succ, List.getElem_cons_zero, List.setIfInBounds_toArray, List.set_cons_zero, List.set_cons_succ]
          refine wpAnyL_take (fun _ _ hS_ hb_ => gr_bel hS_ hb_) (i := 3) rfl (by kernel_rfl) (fun _ _ _ h => h) (worldG (by rfl) (by intro w_ hS_; have q := (hS_.cell (World.block_lt_of_cell? w2 _ k0)).trans k0; go_simp; first | done | with_reducible rfl)) ?_
          try simp only [Act.put, List.getElem_toArray, List.getElem_cons_succ, List.getElem_cons_zero, List.setIfInBounds_toArray, List.set_cons_zero, List.set_cons_succ]
          refine wpAnyL_pure (fun _ _ hS_ hb_ => gr_bel hS_ hb_) (i := 4) rfl (by kernel_rfl) (fun _ _ _ h => h) (pureG (by rfl) (by intro w_; go_simp; first | done | with_reducible rfl)) ?_
          try simp only [Act.put, List.getElem_toArray, List.getElem_cons_succ, List.getElem_cons_zero, List.setIfInBounds_toArray, List.set_cons_zero, List.set_cons_succ]
          refine wpAnyL_pure (fun _ _ hS_ hb_ => gr_bel hS_ hb_) (i := 5) rfl (by kernel_rfl) (fun _ _ _ h => h) (pureG (by rfl) (by intro w_; go_simp; first | done | with_reducible rfl)) ?_
          try simp only [Act.put, List.getElem_toArray, List.getElem_cons_succ, List.getElem_cons_zero, List.setIfInBounds_toArray, List.set_cons_zero, List.set_cons_succ]
          refine wpAnyL_pure (fun _ _ hS_ hb_ => gr_bel hS_ hb_) (i := 6) rfl (by kernel_rfl) (fun _ _ _ h => h) (pureG (by rfl) (by intro w_; go_simp; first | done | with_reducible rfl)) ?_
          try simp only [Act.put, List.getElem_toArray, List.getElem_cons_succ, List.getElem_cons_zero, List.setIfInBounds_toArray, List.set_cons_zero, List.set_cons_succ]
          refine wpAnyL_pure (fun _ _ hS_ hb_ => gr_bel hS_ hb_) (i := 8) rfl (by kernel_rfl) (fun _ _ _ h => h) (pureG (by rfl) (by intro w_; go_simp; first | done | with_reducible rfl)) ?_
          try simp only [Act.put, List.getElem_toArray, List.getElem_cons_succ, List.getElem_cons_zero, List.setIfInBounds_toArray, List.set_cons_zero, List.set_cons_succ]
          refine wpAnyL_pure (fun _ _ hS_ hb_ => gr_bel hS_ hb_) (i := 9) rfl (by kernel_rfl) (fun _ _ _ h => h) (pureG (by rfl) (by intro w_; go_simp; first | done | with_reducible rfl)) ?_
          try simp only [Act.put, List.getElem_toArray, List.getElem_cons_succ, List.getElem_cons_zero, List.setIfInBounds_toArray, List.set_cons_zero, List.set_cons_succ]
          refine wpAnyL_one (i := 7) (by kernel_rfl) (by decide) fun W1 hg1 hS1 => ?_
          refine wpOp_run (i := 7) (v := .slice (some ⟨W1.heap.size, 0, none⟩) 2 2) (W2 := W1.alloc (.cells #[.int .u64 (m1 : Nat), .int .u64 (s1 : Nat)] 39)) rfl (by rfl) (by go_simp; first | done | rfl) ?_
          refine ⟨hS1.alloc hS1.size _, ?_⟩
          try simp only [Act.put, List.getElem_toArray, List.getElem_cons_succ, List.getElem_cons_zero, List.setIfInBounds_toArray, List.set_cons_zero, List.set_cons_succ]
          refine wpAnyL_one (i := 10) (by kernel_rfl) (by decide) fun W2 hg2 hS2 => ?_
          refine wpOp_append_words (i := 10) rfl (by rfl) _ _ rfl w.heap.size (.slice (some ⟨W1.heap.size, 0, none⟩) 2 2) 2 [m1, s1] rfl (own_below (ownsMono (lit2 W1 m1 s1) (Nat.le_trans H2.out.size hS1.size)) hg2) (some ⟨B, o + 1, none⟩) (n - 1) (c2 - 1) (F.drop 1) (by simp [Act.eval]) (HWD.out W2 hS2) (by omega) (Nat.le_trans H2.out.size hS2.size) fun v3 W3 ho3 hg3 => ?_
          obtain ⟨a3, c3, rfl⟩ := own_slice ho3
          have hbW3 : Below w.heap.size w W3 := (H2.out.trans (Below.mono hS2 H2.out.size)).grown hg3 (Nat.le_trans H2.out.size hS2.size) (fun x hx => by simp [Value.ownBlock] at hx; have := H2.out.size; have := hS1.size; omega)
          refine ⟨hS2.grown hg3 hS2.size (fun x hx => by simp [Value.ownBlock] at hx; have := hS1.size; omega), ?_⟩
          try simp only [Act.put, List.getElem_toArray, List.getElem_cons_succ, List.getElem_cons_zero, List.setIfInBounds_toArray, List.set_cons_zero, List.set_cons_succ]
          refine wpAnyL_pure (fun _ _ hS_ hb_ => gr_bel hS_ hb_) (i := 11) rfl (by kernel_rfl) (fun _ _ _ h => h) (pureG (by rfl) (by intro w_; go_simp; first | done | with_reducible rfl)) ?_
          try simp only [Act.put, List.getElem_toArray, List.getElem_cons_succ, List.getElem_cons_zero, List.setIfInBounds_toArray, List.set_cons_zero, List.set_cons_succ]
          refine wpAnyL_pure (fun _ _ hS_ hb_ => gr_bel hS_ hb_) (i := 12) rfl (by kernel_rfl) (fun _ _ _ h => h) (pureG (by rfl) (by intro w_; go_simp; first | done | with_reducible rfl)) ?_
          try simp only [Act.put, List.getElem_toArray, List.getElem_cons_succ, List.getElem_cons_zero, List.setIfInBounds_toArray, List.set_cons_zero, List.set_cons_succ]
          refine wpAnyL_done (by kernel_rfl) ?_ _
          intro W4 hgW4
          have ho4 := own_below ho3 hgW4
          have hb4 : Below w.heap.size w W4 := hbW3.trans (Below.mono hgW4 hbW3.size)
          rw [← HU.out] at ho4
          have e6 : (unf F).length = 2 + (n - 1) := by have := HN.out; rw [HU.out]; simp <;> omega
          have hu8 : ∀ x ∈ unf F, x < 18446744073709551616 := by rw [HU.out]; intro x hx; rcases List.mem_append.1 hx with hx | hx; (simp at hx; omega); (have := HF3.out x (List.mem_of_mem_drop hx); omega)
          obtain ⟨a5, c5, e, hin4, _⟩ := ownw_in ho4 hu8 (by omega)
          injection e with e1 e2 e3
          subst e1 e3
          have HI4 := Lib.hid hin4
          have HE6 := Lib.hid e6
          have HB4 := Lib.hid hb4
          go_wp2_with fail
          go_ret2
          exact OidIs.good HX.out HB4.out HE6.out HI4.out
    · have hx : 0 < k.len := by omega
      have HX := Lib.hid (show oidE 6 b k = .error 127 by simp only [oidE]; rw [if_neg (by simp), if_pos hkl])
      clear hb hk
      generalize k.len = kn at *
      go_enter Try.func27, Try.ntmps27
      go_wp2_with (go_at_call 57; refine (bodyOf_kids 6 _ _ _ _ _ _ hx _).mono ?_; rintro e w1 ⟨rfl, hb1⟩)
      go_ret2
      exact OidIs.err HX.out ((h0 _).trans (hb1.mono (hs0 _)))
  · have HX := Lib.hid (show oidE t b k = .error 123 by simp only [oidE]; rw [if_pos h3])
    clear hb hk
    go_enter Try.func27, Try.ntmps27
    go_wp2_with (go_at_call 57; refine (bodyOf_tag t _ _ _ _ _ _ _ (by omega) _).mono ?_; rintro e w1 ⟨rfl, hb1⟩)
    go_ret2
    exact OidIs.err HX.out ((h0 _).trans (hb1.mono (hs0 _)))
end Go.Proofs.Ytbabpmncdphnjaa
