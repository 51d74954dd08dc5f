/- The state behind a block of SHA-384 and SHA-512: the project's function answers the plain one. No condition but the tables and the lengths. -/
import Derived.Test.YtnikhnpigopihaaDoorMixA
namespace Go.Proofs.YtnikhnpigopihaaDoor
open Go.RowKit
set_option linter.unusedVariables false
theorem info92s : (Tryd.prog.info? 92).map (·.size) = some 80 := by kernel_rfl
set_option maxRecDepth 100000 in
set_option maxHeartbeats 8000000 in
theorem mix64_any (s : List Nat) (n c : Nat) (b off : Nat) (l : List Nat) (w : World) (hs : s.length = 8) (hsb : ∀ x ∈ s, x < 2 ^ 64) (hb : BIn w (some ⟨b, off, none⟩) n c l) (hn : 128 ≤ n) (htab : Tabs w) :
    Calls Tryd.prog 56 #[.agg (natsV .u64 s).toArray, .slice (some ⟨b, off, none⟩) n c] w (WordsIs (mix 64 s l) w) := by
  have hsz : (natsV .u64 s).toArray.size = 8 := by simp [natsV, hs]
  have hlen := hb.1.1
  have hlt := hb.1.2.2.1
  have hcap := hb.2.1
  have hc2 := hb.2.2.1
  unfold maxLen at hc2
  have HTAB := Lib.hid htab
  have HSB := Lib.hid hsb
  clear htab hsb
  have HB := Lib.hid hb
  have HL := Lib.hid hlen
  have HT := Lib.hid hlt
  have HS := Lib.hid hs
  clear hb hlen hlt hs
  go_enter Tryd.func56, Tryd.ntmps56
  go_wp2_with fail
  clear hsz
  go_loopw [27] (fun i wr => ∃ t : Nat, t ≤ 80 ∧ i = .int .i64 t ∧ Blk wr w.heap.size 66 (natsV .u64 s) ∧ Blk wr (w.heap.size + 1) 66 (natsV .u64 (zeros 8)) ∧ Blk wr (w.heap.size + 1 + 1) 92 (natsV .u64 (wds 64 l t ++ zeros (80 - t))) ∧ Below w.heap.size w wr) (fun i _ => 80 - (intOf i).toNat)
  case atStart => exact ⟨0, by omega, rfl, ((Blk.new w 66 (natsV .u64 s)).alloc _).alloc _, (Blk.new2 w _ 66 (natsV .u64 (zeros 8))).alloc _, Blk.new3 w _ _ 92 (natsV .u64 (zeros 80)), (((Below.refl _ _).alloc (Nat.le_refl _) _).alloc (by simp) _).alloc (by simp; omega) _⟩
  case round =>
    obtain ⟨t, ht, rfl, k1, k2, k3, hbel⟩ := hrel
    have K1 := Lib.hid k1
    have K2 := Lib.hid k2
    have K3 := Lib.hid k3
    clear k1 k2 k3
    by_cases h16 : t < 16
    · as_aux_lemma =>
      have hbt := (bin_tail (f := 8 * t) HB.out (by omega)).below hbel
      have hN := number_any b (off + 8 * t) (n - 8 * t) (c - 8 * t) (l.drop (8 * t)) 8 wr hbt (by omega) (by omega)
      have hx : wd 64 l t < 18446744073709551616 := wd_lt (.inr rfl) HT.out t
      have hN' : be (List.take 8 (List.drop (8 * t) l)) = wd 64 l t := rfl
      rw [hN'] at hN
      have HN := Lib.hid hN
      have HX := Lib.hid (fill_next 64 l 80 t (wd 64 l t) (by omega) (nextW_lo _ _ _ _ h16))
      clear hN hN' hbt
      generalize wd 64 l t = x at *
      have hh : (t : Int) < 16 := by omega
      have hh2 : (t : Int) < 80 := by omega
      have hcell := K3.out.nat t (by simp [wds_length, zeros]; omega)
      have hfree := K3.out.free t
      go_wp2_with fail
      refine HN.out.mono ?_
      rintro e w' ⟨rfl, rfl⟩
      go_wp2_with fail
      have k3' := K3.out.natSet t x
      rw [HX.out] at k3'
      have hbel' := hbel.setCell (p := ⟨w.heap.size + 1 + 1, t, none⟩) (by simp; omega) (.int .u64 (x : Nat))
      have k1' := K1.out.other ⟨w.heap.size + 1 + 1, t, none⟩ (.int .u64 (x : Nat)) (by simp; omega)
      have k2' := K2.out.other ⟨w.heap.size + 1 + 1, t, none⟩ (.int .u64 (x : Nat)) (by simp)
      go_roundw
      case rel => exact ⟨t + 1, by omega, by go_num, k1', k2', k3', hbel'⟩
      case measure => simp [intOf]; omega
    · by_cases h64 : t < 80
      · as_aux_lemma =>
        have hh : ¬ (t : Int) < 16 := by omega
        have hh2 : (t : Int) < 80 := by omega
        have hcell := K3.out.nat t (by simp [wds_length, zeros]; omega)
        have hfree := K3.out.free t
        have c15 := K3.out.nat (t - 15) (by simp [wds_length, zeros]; omega)
        have c2 := K3.out.nat (t - 2) (by simp [wds_length, zeros]; omega)
        have c7 := K3.out.nat (t - 7) (by simp [wds_length, zeros]; omega)
        have c16 := K3.out.nat (t - 16) (by simp [wds_length, zeros]; omega)
        rw [fill_get _ _ _ _ _ (by omega)] at c15 c2 c7 c16
        have b15 : (wds 64 l t).getD (t - 15) 0 < 2 ^ 64 := getD_lt' (wds_lt (.inr rfl) HT.out t) (by decide) _
        have b2 : (wds 64 l t).getD (t - 2) 0 < 2 ^ 64 := getD_lt' (wds_lt (.inr rfl) HT.out t) (by decide) _
        have HX := Lib.hid (fill_next 64 l 80 t _ (by omega) (nextW_hi _ _ _ _ h16))
        generalize (wds 64 l t).getD (t - 15) 0 = x15 at *
        generalize (wds 64 l t).getD (t - 2) 0 = x2 at *
        generalize (wds 64 l t).getD (t - 7) 0 = x7 at *
        generalize (wds 64 l t).getD (t - 16) 0 = x16 at *
        have HSA := Lib.hid (smA64 x15)
        have HSE := Lib.hid (smE64 x2)
        have HB15 := Lib.hid b15
        have HB2 := Lib.hid b2
        clear b15 b2
        have e15 : IntKind.i64.wrap ((t : Int) - 15) = ((t - 15 : Nat) : Int) := by rw [IntWalk.i64_in _ (by omega)]; omega
        have e2 : IntKind.i64.wrap ((t : Int) - 2) = ((t - 2 : Nat) : Int) := by rw [IntWalk.i64_in _ (by omega)]; omega
        have i15 : ((t - 15 : Nat) : Int) < 80 := by omega
        have i2 : ((t - 2 : Nat) : Int) < 80 := by omega
        generalize t - 15 = t15 at *
        generalize t - 2 = t2 at *
        go_wp2_with fail
        have rx := u64_bx
        have ra := u64_add
        have r3 : (x15 : Int) / 128 = ((shr 7 x15 : Nat) : Int) := by rw [shr_eq]; omega
        have r10 : (x2 : Int) / 64 = ((shr 6 x2 : Nat) : Int) := by rw [shr_eq]; omega
        go_quiet (fail)
        go_wp2_with fail
        refine (turn64_lit x15 1 1 _ rfl (by decide) HB15.out).mono ?_
        rintro e w' ⟨rfl, q1, rfl⟩
        go_wp2_with fail
        refine (turn64_lit x15 8 8 _ rfl (by decide) HB15.out).mono ?_
        rintro e w' ⟨rfl, q2, rfl⟩
        go_wp2_with fail
        refine (turn64_lit x2 19 19 _ rfl (by decide) HB2.out).mono ?_
        rintro e w' ⟨rfl, q3, rfl⟩
        go_wp2_with fail
        refine (turn64_lit x2 61 61 _ rfl (by decide) HB2.out).mono ?_
        rintro e w' ⟨rfl, q4, rfl⟩
        go_wp2_with fail
        rw [← HSA.out, ← HSE.out]
        have e7 : IntKind.i64.wrap ((t : Int) - 7) = ((t - 7 : Nat) : Int) := by rw [IntWalk.i64_in _ (by omega)]; omega
        have e16 : IntKind.i64.wrap ((t : Int) - 16) = ((t - 16 : Nat) : Int) := by rw [IntWalk.i64_in _ (by omega)]; omega
        have i7 : ((t - 7 : Nat) : Int) < 80 := by omega
        have i16 : ((t - 16 : Nat) : Int) < 80 := by omega
        generalize t - 7 = t7 at *
        generalize t - 16 = t16 at *
        generalize nq + q1 + q2 + q3 + q4 = nq at *
        generalize smA 64 x15 = y15 at *
        generalize smE 64 x2 = y2 at *
        clear e15 e2 i15 i2 c15 c2 rx r3 r10
        go_region
        all_goals
          have k3' := K3.out.natSet t (add 64 (add 64 (add 64 y2 x7) y15) x16)
          rw [HX.out] at k3'
          have hbel' := hbel.setCell (p := ⟨w.heap.size + 1 + 1, t, none⟩) (by simp; omega) (.int .u64 ((add 64 (add 64 (add 64 y2 x7) y15) x16 : Nat) : Int))
          have k1' := K1.out.other ⟨w.heap.size + 1 + 1, t, none⟩ (.int .u64 ((add 64 (add 64 (add 64 y2 x7) y15) x16 : Nat) : Int)) (by simp; omega)
          have k2' := K2.out.other ⟨w.heap.size + 1 + 1, t, none⟩ (.int .u64 ((add 64 (add 64 (add 64 y2 x7) y15) x16 : Nat) : Int)) (by simp)
          clear ra
          go_wp2_with fail
          go_roundw
          case rel => exact ⟨t + 1, by omega, by go_num, k1', k2', k3', (below_drewN hbel' _).drew⟩
          case measure => simp [intOf]; omega
      · 
        obtain rfl : t = 80 := by omega
        obtain ⟨a0, b0, c0, d0, e0, f0, g0, h0, hs8⟩ := list8 HS.out
        subst hs8
        have hok := St.of_ok HSB.out
        have HOK := Lib.hid hok
        have hwl := wds_length 64 l 80
        have hwb := wds_lt (.inr rfl) HT.out 64
        have KW := Lib.hid (show Blk wr (w.heap.size + 1 + 1) 92 (natsV .u64 (wds 64 l 80)) from by have := K3.out; simpa [zeros] using this)
        obtain ⟨q0, q1, q2, q3, q4, q5, q6, q7⟩ := hok
        have p0 := K1.out.nat 0 (by simp)
        have p1 := K1.out.nat 1 (by simp)
        have p2 := K1.out.nat 2 (by simp)
        have p3 := K1.out.nat 3 (by simp)
        have p4 := K1.out.nat 4 (by simp)
        have p5 := K1.out.nat 5 (by simp)
        have p6 := K1.out.nat 6 (by simp)
        have p7 := K1.out.nat 7 (by simp)
        simp only [St.of, List.getD_cons_zero, List.getD_cons_succ] at q0 q1 q2 q3 q4 q5 q6 q7 p0 p1 p2 p3 p4 p5 p6 p7
        have hcub : wr.rangeAt 1 0 (natsV .u64 cubesN) := by
          intro j v hv
          have hj : j < (natsV .u64 cubesN).length := (List.getElem?_eq_some_iff.1 hv).1
          have hj' : j < 80 := by rw [natsV_length] at hj; exact hj
          rw [Nat.zero_add, (HTAB.out.of hbel HTAB.out.size).2 j hj', ← hv, natsV_get _ _ _ (by exact hj')]
        have HCUB := Lib.hid hcub
        clear hwl hwb K3 h16 h64 hcub
        rw [show ((80 : Nat) : Int) = 80 from rfl]
        go_wp2_with fail
        go_quiet (fail)
        go_wp2_with fail
        go_quiet (fail)
        go_wp2_with (refine wpList_load_mid rfl 92 (.global 1) rfl 1 0 rfl (natsV .u64 cubesN) _ HCUB.out Tryd.underlying92 rfl (by rw [natsV_length]; exact info92s) ?_)
        clear p0 p1 p2 p3 p4 p5 p6 p7 q0 q1 q2 q3 q4 q5 q6 q7
        go_loopw [11, 12, 13, 14, 15, 16, 17, 18, 96] (fun va vb vc vd ve vf vg vh i wr => ∃ t : Nat, t ≤ 80 ∧ i = .int .i64 t ∧ RndRel .u64 va vb vc vd ve vf vg vh (rnds 64 (wds 64 l 80) (St.of [a0, b0, c0, d0, e0, f0, g0, h0]) t) ∧ Blk wr w.heap.size 66 (natsV .u64 [a0, b0, c0, d0, e0, f0, g0, h0]) ∧ Blk wr (w.heap.size + 1) 66 (natsV .u64 (zeros 8)) ∧ Blk wr (w.heap.size + 1 + 1) 92 (natsV .u64 (wds 64 l 80)) ∧ Below w.heap.size w wr) (fun _ _ _ _ _ _ _ _ i _ => 80 - (intOf i).toNat)
        case atStart => exact ⟨0, by omega, rfl, ⟨rfl, rfl, rfl, rfl, rfl, rfl, rfl, rfl⟩, K1.out, K2.out, KW.out, below_drewN hbel _⟩
        case round =>
          clear hbel
          obtain ⟨t, ht, rfl, hrr, k1, k2, k3, hbel⟩ := hrel
          have hok := rnds_ok (ws := wds 64 l 80) HOK.out t
          have HST := Lib.hid (rnds_succ 64 (wds 64 l 80) (St.of [a0, b0, c0, d0, e0, f0, g0, h0]) t)
          have J1 := Lib.hid k1
          have J2 := Lib.hid k2
          have J3 := Lib.hid k3
          clear k1 k2 k3 K1 K2 KW HOK
          obtain ⟨σ, hσ⟩ : ∃ σ, rnds 64 (wds 64 l 80) (St.of [a0, b0, c0, d0, e0, f0, g0, h0]) t = σ := ⟨_, rfl⟩
          rw [hσ] at HST hrr hok
          have HEQ := Lib.hid hσ
          clear hσ
          obtain ⟨a, b', c', d, e, f, g, h⟩ := σ
          obtain ⟨rfl, rfl, rfl, rfl, rfl, rfl, rfl, rfl⟩ := hrr
          have HQ := Lib.hid hok
          clear hok
          dsimp only
          by_cases h64 : t < 80
          · as_aux_lemma =>
            have cw := J3.out.nat t (by rw [wds_length]; exact h64)
            have hix := fun (w0 : World) => index_nats (P := Tryd.prog) w0 92 48 80 .u64 cubesN t Tryd.underlying92 Tryd.underlying48 info48 h64 rfl
            rw [← kc64] at hix
            rw [rnd_eq] at HST
            have HA := Lib.hid (bigA64 a)
            have HE := Lib.hid (bigE64 e)
            generalize kc 64 t = kk at *
            generalize (wds 64 l 80).getD t 0 = ww at *
            have rx := u64_bx
            have ra := u64_add
            have rd := u64_ba
            have rn := u64_bn
            have rs : (if IntKind.u64.signed = true then (-1 : Int) else IntKind.u64.max) = IntKind.u64.max := rfl
            have hti : (t : Int) < 80 := by omega
            go_wp2_with fail
            refine (turn64_lit a 28 28 _ rfl (by decide) HQ.out.1).mono ?_
            rintro e' w' ⟨rfl, q1, rfl⟩
            go_wp2_with fail
            refine (turn64_lit a 34 34 _ rfl (by decide) HQ.out.1).mono ?_
            rintro e' w' ⟨rfl, q2, rfl⟩
            go_wp2_with fail
            refine (turn64_lit a 39 39 _ rfl (by decide) HQ.out.1).mono ?_
            rintro e' w' ⟨rfl, q3, rfl⟩
            go_wp2_with fail
            refine (turn64_lit e 14 14 _ rfl (by decide) HQ.out.2.2.2.2.1).mono ?_
            rintro e' w' ⟨rfl, q4, rfl⟩
            go_wp2_with fail
            refine (turn64_lit e 18 18 _ rfl (by decide) HQ.out.2.2.2.2.1).mono ?_
            rintro e' w' ⟨rfl, q5, rfl⟩
            go_wp2_with fail
            refine (turn64_lit e 41 41 _ rfl (by decide) HQ.out.2.2.2.2.1).mono ?_
            rintro e' w' ⟨rfl, q6, rfl⟩
            go_wp2_with fail
            rw [← HA.out, ← HE.out]
            go_roundw
            case rel => exact ⟨t + 1, by omega, by go_num, (by rw [HST.out]; exact ⟨rfl, rfl, rfl, rfl, rfl, rfl, rfl, rfl⟩), J1.out, J2.out, J3.out, below_drewN hbel _⟩
            case measure => simp [intOf]; omega
          · 
            obtain rfl : t = 80 := by omega
            rw [show ((80 : Nat) : Int) = 80 from rfl]
            have HBB := Lib.hid (built66 a b' c' d e f g h)
            go_wp2_with (refine wpList_build_is rfl 66 _ rfl _ ?hb ?_; case hb => (simp only [List.map_toArray, List.map_cons, List.map_nil]; exact HBB.out))
            clear HBB
            have HM := Lib.hid (show mix 64 [a0, b0, c0, d0, e0, f0, g0, h0] l = List.zipWith (add 64) [a0, b0, c0, d0, e0, f0, g0, h0] [a, b', c', d, e, f, g, h] from by
              unfold mix; rw [rounds64, HEQ.out]; rfl)
            obtain ⟨s8, hs8⟩ : ∃ s8, s8 = [a0, b0, c0, d0, e0, f0, g0, h0] := ⟨_, rfl⟩
            obtain ⟨v8, hv8⟩ : ∃ v8, v8 = [a, b', c', d, e, f, g, h] := ⟨_, rfl⟩
            have HIX := Lib.hid (show ∀ (k : Nat) (hk : k < 8) (w0 : World), (Instr.index 66 (.agg #[.int .u64 (a : Nat), .int .u64 (b' : Nat), .int .u64 (c' : Nat), .int .u64 (d : Nat), .int .u64 (e : Nat), .int .u64 (f : Nat), .int .u64 (g : Nat), .int .u64 (h : Nat)]) (.int .i64 (k : Nat))).run Tryd.prog w0 = .ok (.int .u64 ([a, b', c', d, e, f, g, h].getD k 0 : Nat)) w0 from
              fun (k : Nat) (hk : k < 8) (w0 : World) => (index_nats (P := Tryd.prog) w0 66 48 8 .u64 [a, b', c', d, e, f, g, h] k Tryd.underlying66 Tryd.underlying48 info48 hk rfl))
            obtain ⟨m8, hm8⟩ : ∃ m8, mix 64 [a0, b0, c0, d0, e0, f0, g0, h0] l = m8 := ⟨_, rfl⟩
            have HL8 := Lib.hid (show m8.length = 8 from by rw [← hm8]; exact mix_length HS.out)
            have HM8 := Lib.hid hm8
            rw [hm8] at HM
            clear hm8
            rw [← hv8] at HIX HM
            rw [← hs8] at HM HSB HS J1 ⊢
            have hvl : v8.length = 8 := by rw [hv8]; rfl
            have HVL := Lib.hid hvl
            clear hs8 hvl J3
            have J1' := Lib.hid (show Blk wr w.heap.size 66 (natsV .u64 (sumTo 64 s8 v8 0)) from by rw [sumTo_zero]; exact J1.out)
            clear J1
            go_loopw [169] (fun i wr' => ∃ k : Nat, k ≤ 8 ∧ i = .int .i64 k ∧ Blk wr' w.heap.size 66 (natsV .u64 (sumTo 64 s8 v8 k)) ∧ Blk wr' (w.heap.size + 1) 66 (natsV .u64 (zeros 8)) ∧ Below w.heap.size w wr') (fun i _ => 8 - (intOf i).toNat)
            case atStart => exact ⟨0, by omega, rfl, J1'.out, J2.out, hbel⟩
            case round =>
              clear hbel J1' J2
              obtain ⟨k, hk, rfl, j1, j2, hbel⟩ := hrel
              have J1 := Lib.hid j1
              have J2 := Lib.hid j2
              clear j1 j2
              by_cases h8 : k < 8
              · have hix := HIX.out k h8
                have hl1 := sumTo_length 64 s8 v8 k (by rw [HVL.out, HS.out]) (by rw [HS.out]; omega)
                have hcell := J1.out.nat k (by rw [hl1, HS.out]; exact h8)
                rw [sumTo_get 64 s8 v8 k (by rw [HVL.out, HS.out]) (by rw [HS.out]; exact h8)] at hcell
                have hfree := J1.out.free k
                have HSET := Lib.hid (sumTo_set 64 s8 v8 k (by rw [HVL.out, HS.out]) (by rw [HS.out]; exact h8))
                clear hl1
                generalize s8.getD k 0 = sk at *
                generalize v8.getD k 0 = vk at *
                have ra := u64_add
                have hki : (k : Int) < 8 := by omega
                go_wp2_with fail
                have j1 := J1.out.natSet k (add 64 sk vk)
                rw [HSET.out] at j1
                have hb2 := hbel.setCell (p := ⟨w.heap.size, k, none⟩) (Nat.le_refl _) (.int .u64 (add 64 sk vk : Nat))
                have j2 := J2.out.other ⟨w.heap.size, k, none⟩ (.int .u64 (add 64 sk vk : Nat)) (by simp)
                go_roundw
                case rel => exact ⟨k + 1, by omega, by go_num, j1, j2, hb2⟩
                case measure => simp [intOf]; omega
              · obtain rfl : k = 8 := by omega
                rw [sumTo_all 64 s8 v8 HS.out HVL.out, ← HM.out] at J1
                clear HM
                rw [show ((8 : Nat) : Int) = 8 from rfl]
                go_wp2_with (first | (refine wpList_load_row rfl 66 (.tmp 2) rfl w.heap.size rfl 66 (natsV .u64 m8).toArray (0, 0) _ J1.out Tryd.underlying66 rfl (by rw [info66, size_nats, HL8.out]) ?_) | (refine wpList_store_row rfl 66 (.tmp 4) (.tmp 180) rfl (w.heap.size + 1) (natsV .u64 m8).toArray rfl rfl 66 (natsV .u64 (zeros 8)).toArray J2.out (by rw [info66, size_nats, HL8.out]) (by rw [size_nats, size_nats, HL8.out]; rfl) (all_nats _ _) ?_))
                have j2 := J2.out.setRow (natsV .u64 m8)
                have hb2 := below_setRow' hbel (show w.heap.size ≤ w.heap.size + 1 by omega) (natsV .u64 m8).toArray
                refine bodyPost_ret (v := .agg (natsV .u64 m8).toArray) ?_ rfl ⟨by rw [HM8.out], hb2⟩
                exact results_cell_row Tryd.results56 _ _ (w.heap.size + 1) 66 _ (0, 0) _ rfl j2 Tryd.underlying66 rfl (by rw [info66, size_nats, HL8.out])
end Go.Proofs.YtnikhnpigopihaaDoor
