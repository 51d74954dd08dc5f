/- The state behind a block of SHA-256: the project's function answers the plain one. No condition but the tables and the lengths. -/
import Derived.Test.YtnikhnpigopihaaDoorShared
import Derived.Deep.MidRow
import Derived.Deep.WholeRow
namespace Go.Proofs.YtnikhnpigopihaaDoor
open Go.RowKit
set_option linter.unusedVariables false
theorem fill_next (W : Nat) (b : List Nat) (N t x : Nat) (ht : t < N) (hx : nextW W b (wds W b t) t = x) : (wds W b t ++ zeros (N - t)).set t x = wds W b (t + 1) ++ zeros (N - (t + 1)) := by
  rw [fill_set _ N t x (wds_length _ _ _) ht, ← hx]; rfl
theorem fill_get (W : Nat) (b : List Nat) (N t i : Nat) (hi : i < t) : (wds W b t ++ zeros (N - t)).getD i 0 = (wds W b t).getD i 0 := by
  simp only [List.getD_eq_getElem?_getD]; rw [List.getElem?_append_left (by rw [wds_length]; exact hi)]

def RndRel (k : IntKind) (va vb vc vd ve vf vg vh : Value) (s : St) : Prop := va = .int k (s.a : Nat) ∧ vb = .int k (s.b : Nat) ∧ vc = .int k (s.c : Nat) ∧ vd = .int k (s.d : Nat) ∧ ve = .int k (s.e : Nat) ∧ vf = .int k (s.f : Nat) ∧ vg = .int k (s.g : Nat) ∧ vh = .int k (s.h : Nat)
set_option maxRecDepth 100000 in
set_option maxHeartbeats 8000000 in
theorem mix32_any (s : List Nat) (n c : Nat) (b off : Nat) (l : List Nat) (w : World) (hs : s.length = 8) (hsb : ∀ x ∈ s, x < 2 ^ 32) (hb : BIn w (some ⟨b, off, none⟩) n c l) (hn : 64 ≤ n) (htab : Tabs w) :
    Calls Tryd.prog 55 #[.agg (natsV .u64 s).toArray, .slice (some ⟨b, off, none⟩) n c] w (WordsIs (mix 32 s l) w) := by
  have hsz : (natsV .u64 s).toArray.size = 8 := by simp [natsV, hs]
  have hlen := hb.1.1
  have hlt := hb.1.2.2.1
  have hcap := hb.2.1
  have hc2 := hb.2.2.1
  unfold maxLen at hc2
  have HTAB := Lib.hid htab
  have HSB := Lib.hid hsb
  clear htab hsb
  have HB := Lib.hid hb
  have HL := Lib.hid hlen
  have HT := Lib.hid hlt
  have HS := Lib.hid hs
  clear hb hlen hlt hs
  go_enter Tryd.func55, Tryd.ntmps55
  go_wp2_with fail
  clear hsz
  go_loopw [26] (fun i wr => ∃ t : Nat, t ≤ 64 ∧ i = .int .i64 t ∧ Blk wr w.heap.size 66 (natsV .u64 s) ∧ Blk wr (w.heap.size + 1) 66 (natsV .u64 (zeros 8)) ∧ Blk wr (w.heap.size + 1 + 1) 90 (natsV .u32 (wds 32 l t ++ zeros (64 - t))) ∧ Below w.heap.size w wr) (fun i _ => 64 - (intOf i).toNat)
  case atStart => exact ⟨0, by omega, rfl, ((Blk.new w 66 (natsV .u64 s)).alloc _).alloc _, (Blk.new2 w _ 66 (natsV .u64 (zeros 8))).alloc _, Blk.new3 w _ _ 90 (natsV .u32 (zeros 64)), (((Below.refl _ _).alloc (Nat.le_refl _) _).alloc (by simp) _).alloc (by simp; omega) _⟩
  case round =>
    obtain ⟨t, ht, rfl, k1, k2, k3, hbel⟩ := hrel
    have K1 := Lib.hid k1
    have K2 := Lib.hid k2
    have K3 := Lib.hid k3
    clear k1 k2 k3
    by_cases h16 : t < 16
    · as_aux_lemma =>
      have hbt := (bin_tail (f := 4 * t) HB.out (by omega)).below hbel
      have hN := number_any b (off + 4 * t) (n - 4 * t) (c - 4 * t) (l.drop (4 * t)) 4 wr hbt (by omega) (by omega)
      have hx : wd 32 l t < 4294967296 := wd_lt (.inl rfl) HT.out t
      have hN' : be (List.take 4 (List.drop (4 * t) l)) = wd 32 l t := rfl
      rw [hN'] at hN
      have HN := Lib.hid hN
      have HX := Lib.hid (fill_next 32 l 64 t (wd 32 l t) (by omega) (nextW_lo _ _ _ _ h16))
      clear hN hN' hbt
      generalize wd 32 l t = x at *
      have hh : (t : Int) < 16 := by omega
      have hh2 : (t : Int) < 64 := by omega
      have hcell := K3.out.nat t (by simp [wds_length, zeros]; omega)
      have hfree := K3.out.free t
      go_wp2_with fail
      refine HN.out.mono ?_
      rintro e w' ⟨rfl, rfl⟩
      go_wp2_with fail
      have k3' := K3.out.natSet t x
      rw [HX.out] at k3'
      have hbel' := hbel.setCell (p := ⟨w.heap.size + 1 + 1, t, none⟩) (by simp; omega) (.int .u32 (x : Nat))
      have k1' := K1.out.other ⟨w.heap.size + 1 + 1, t, none⟩ (.int .u32 (x : Nat)) (by simp; omega)
      have k2' := K2.out.other ⟨w.heap.size + 1 + 1, t, none⟩ (.int .u32 (x : Nat)) (by simp)
      go_roundw
      case rel => exact ⟨t + 1, by omega, by go_num, k1', k2', k3', hbel'⟩
      case measure => simp [intOf]; omega
    · by_cases h64 : t < 64
      · as_aux_lemma =>
        have hh : ¬ (t : Int) < 16 := by omega
        have hh2 : (t : Int) < 64 := by omega
        have hcell := K3.out.nat t (by simp [wds_length, zeros]; omega)
        have hfree := K3.out.free t
        have c15 := K3.out.nat (t - 15) (by simp [wds_length, zeros]; omega)
        have c2 := K3.out.nat (t - 2) (by simp [wds_length, zeros]; omega)
        have c7 := K3.out.nat (t - 7) (by simp [wds_length, zeros]; omega)
        have c16 := K3.out.nat (t - 16) (by simp [wds_length, zeros]; omega)
        rw [fill_get _ _ _ _ _ (by omega)] at c15 c2 c7 c16
        have b15 : (wds 32 l t).getD (t - 15) 0 < 2 ^ 32 := getD_lt' (wds_lt (.inl rfl) HT.out t) (by decide) _
        have b2 : (wds 32 l t).getD (t - 2) 0 < 2 ^ 32 := getD_lt' (wds_lt (.inl rfl) HT.out t) (by decide) _
        have HX := Lib.hid (fill_next 32 l 64 t _ (by omega) (nextW_hi _ _ _ _ h16))
        generalize (wds 32 l t).getD (t - 15) 0 = x15 at *
        generalize (wds 32 l t).getD (t - 2) 0 = x2 at *
        generalize (wds 32 l t).getD (t - 7) 0 = x7 at *
        generalize (wds 32 l t).getD (t - 16) 0 = x16 at *
        have HSA := Lib.hid (smA32 x15)
        have HSE := Lib.hid (smE32 x2)
        have HB15 := Lib.hid b15
        have HB2 := Lib.hid b2
        clear b15 b2
        have e15 : IntKind.i64.wrap ((t : Int) - 15) = ((t - 15 : Nat) : Int) := by rw [IntWalk.i64_in _ (by omega)]; omega
        have e2 : IntKind.i64.wrap ((t : Int) - 2) = ((t - 2 : Nat) : Int) := by rw [IntWalk.i64_in _ (by omega)]; omega
        have i15 : ((t - 15 : Nat) : Int) < 64 := by omega
        have i2 : ((t - 2 : Nat) : Int) < 64 := by omega
        generalize t - 15 = t15 at *
        generalize t - 2 = t2 at *
        go_wp2_with fail
        have rx := u32_bx
        have ra := u32_add
        have r3 : (x15 : Int) / 8 = ((shr 3 x15 : Nat) : Int) := by rw [shr_eq]; omega
        have r10 : (x2 : Int) / 1024 = ((shr 10 x2 : Nat) : Int) := by rw [shr_eq]; omega
        go_quiet (fail)
        go_wp2_with fail
        refine (turn32_lit x15 7 7 _ rfl (by decide) HB15.out).mono ?_
        rintro e w' ⟨rfl, q1, rfl⟩
        go_wp2_with fail
        refine (turn32_lit x15 18 18 _ rfl (by decide) HB15.out).mono ?_
        rintro e w' ⟨rfl, q2, rfl⟩
        go_wp2_with fail
        refine (turn32_lit x2 17 17 _ rfl (by decide) HB2.out).mono ?_
        rintro e w' ⟨rfl, q3, rfl⟩
        go_wp2_with fail
        refine (turn32_lit x2 19 19 _ rfl (by decide) HB2.out).mono ?_
        rintro e w' ⟨rfl, q4, rfl⟩
        go_wp2_with fail
        rw [← HSA.out, ← HSE.out]
        have e7 : IntKind.i64.wrap ((t : Int) - 7) = ((t - 7 : Nat) : Int) := by rw [IntWalk.i64_in _ (by omega)]; omega
        have e16 : IntKind.i64.wrap ((t : Int) - 16) = ((t - 16 : Nat) : Int) := by rw [IntWalk.i64_in _ (by omega)]; omega
        have i7 : ((t - 7 : Nat) : Int) < 64 := by omega
        have i16 : ((t - 16 : Nat) : Int) < 64 := by omega
        generalize t - 7 = t7 at *
        generalize t - 16 = t16 at *
        generalize nq + q1 + q2 + q3 + q4 = nq at *
        generalize smA 32 x15 = y15 at *
        generalize smE 32 x2 = y2 at *
        clear e15 e2 i15 i2 c15 c2 rx r3 r10
        go_region
        all_goals
          have k3' := K3.out.natSet t (add 32 (add 32 (add 32 y2 x7) y15) x16)
          rw [HX.out] at k3'
          have hbel' := hbel.setCell (p := ⟨w.heap.size + 1 + 1, t, none⟩) (by simp; omega) (.int .u32 ((add 32 (add 32 (add 32 y2 x7) y15) x16 : Nat) : Int))
          have k1' := K1.out.other ⟨w.heap.size + 1 + 1, t, none⟩ (.int .u32 ((add 32 (add 32 (add 32 y2 x7) y15) x16 : Nat) : Int)) (by simp; omega)
          have k2' := K2.out.other ⟨w.heap.size + 1 + 1, t, none⟩ (.int .u32 ((add 32 (add 32 (add 32 y2 x7) y15) x16 : Nat) : Int)) (by simp)
          clear ra
          go_wp2_with fail
          go_roundw
          case rel => exact ⟨t + 1, by omega, by go_num, k1', k2', k3', (below_drewN hbel' _).drew⟩
          case measure => simp [intOf]; omega
      · 
        obtain rfl : t = 64 := by omega
        obtain ⟨a0, b0, c0, d0, e0, f0, g0, h0, hs8⟩ := list8 HS.out
        subst hs8
        have hok := St.of_ok HSB.out
        have HOK := Lib.hid hok
        have hwl := wds_length 32 l 64
        have hwb := wds_lt (.inl rfl) HT.out 64
        have KW := Lib.hid (show Blk wr (w.heap.size + 1 + 1) 90 (natsV .u32 (wds 32 l 64)) from by have := K3.out; simpa [zeros] using this)
        obtain ⟨q0, q1, q2, q3, q4, q5, q6, q7⟩ := hok
        have p0 := K1.out.nat 0 (by simp)
        have p1 := K1.out.nat 1 (by simp)
        have p2 := K1.out.nat 2 (by simp)
        have p3 := K1.out.nat 3 (by simp)
        have p4 := K1.out.nat 4 (by simp)
        have p5 := K1.out.nat 5 (by simp)
        have p6 := K1.out.nat 6 (by simp)
        have p7 := K1.out.nat 7 (by simp)
        simp only [St.of, List.getD_cons_zero, List.getD_cons_succ] at q0 q1 q2 q3 q4 q5 q6 q7 p0 p1 p2 p3 p4 p5 p6 p7
        clear hwl hwb K3 h16 h64
        rw [show ((64 : Nat) : Int) = 64 from rfl]
        go_wp2_with fail
        go_quiet (fail)
        go_wp2_with fail
        go_quiet (fail)
        go_wp2_with fail
        clear p0 p1 p2 p3 p4 p5 p6 p7 q0 q1 q2 q3 q4 q5 q6 q7
        go_loopw [11, 12, 13, 14, 15, 16, 17, 18, 103] (fun va vb vc vd ve vf vg vh i wr => ∃ t : Nat, t ≤ 64 ∧ i = .int .i64 t ∧ RndRel .u32 va vb vc vd ve vf vg vh (rnds 32 (wds 32 l 64) (St.of [a0, b0, c0, d0, e0, f0, g0, h0]) t) ∧ Blk wr w.heap.size 66 (natsV .u64 [a0, b0, c0, d0, e0, f0, g0, h0]) ∧ Blk wr (w.heap.size + 1) 66 (natsV .u64 (zeros 8)) ∧ Blk wr (w.heap.size + 1 + 1) 90 (natsV .u32 (wds 32 l 64)) ∧ Below w.heap.size w wr) (fun _ _ _ _ _ _ _ _ i _ => 64 - (intOf i).toNat)
        case atStart => exact ⟨0, by omega, rfl, ⟨rfl, rfl, rfl, rfl, rfl, rfl, rfl, rfl⟩, K1.out, K2.out, KW.out, below_drewN (below_drewN hbel _) _⟩
        case round =>
          clear hbel
          obtain ⟨t, ht, rfl, hrr, k1, k2, k3, hbel⟩ := hrel
          have hok := rnds_ok (ws := wds 32 l 64) HOK.out t
          have HST := Lib.hid (rnds_succ 32 (wds 32 l 64) (St.of [a0, b0, c0, d0, e0, f0, g0, h0]) t)
          have J1 := Lib.hid k1
          have J2 := Lib.hid k2
          have J3 := Lib.hid k3
          clear k1 k2 k3 K1 K2 KW HOK
          obtain ⟨σ, hσ⟩ : ∃ σ, rnds 32 (wds 32 l 64) (St.of [a0, b0, c0, d0, e0, f0, g0, h0]) t = σ := ⟨_, rfl⟩
          rw [hσ] at HST hrr hok
          have HEQ := Lib.hid hσ
          clear hσ
          obtain ⟨a, b', c', d, e, f, g, h⟩ := σ
          obtain ⟨rfl, rfl, rfl, rfl, rfl, rfl, rfl, rfl⟩ := hrr
          have HQ := Lib.hid hok
          clear hok
          dsimp only
          by_cases h64 : t < 64
          · as_aux_lemma =>
            have cw := J3.out.nat t (by rw [wds_length]; exact h64)
            have ck0 := HTAB.out.2 t (by omega)
            have ck : wr.cell? ⟨1, t, none⟩ = some (.int .u64 (cubesN.getD t 0 : Nat)) := (hbel.cell (World.block_lt_of_cell? w _ ck0)).trans ck0
            have hk2 := kc_lt (.inl rfl : 32 = 32 ∨ 32 = 64) t
            have rk : ((cubesN.getD t 0 : Nat) : Int) / 4294967296 = ((kc 32 t : Nat) : Int) := by rw [kc32]; omega
            rw [rnd_eq] at HST
            have HA := Lib.hid (bigA32 a)
            have HE := Lib.hid (bigE32 e)
            clear ck0
            generalize kc 32 t = kk at *
            generalize cubesN.getD t 0 = k0 at *
            generalize (wds 32 l 64).getD t 0 = ww at *
            have rx := u32_bx
            have ra := u32_add
            have ra' := u32_add'
            have rd := u32_ba
            have rn := u32_bn
            have rs : (if IntKind.u32.signed = true then (-1 : Int) else IntKind.u32.max) = IntKind.u32.max := rfl
            have hti : (t : Int) < 64 := by omega
            have hti2 : (t : Int) < 80 := by omega
            go_wp2_with fail
            refine (turn32_lit a 2 2 _ rfl (by decide) HQ.out.1).mono ?_
            rintro e' w' ⟨rfl, q1, rfl⟩
            go_wp2_with fail
            refine (turn32_lit a 13 13 _ rfl (by decide) HQ.out.1).mono ?_
            rintro e' w' ⟨rfl, q2, rfl⟩
            go_wp2_with fail
            refine (turn32_lit a 22 22 _ rfl (by decide) HQ.out.1).mono ?_
            rintro e' w' ⟨rfl, q3, rfl⟩
            go_wp2_with fail
            refine (turn32_lit e 6 6 _ rfl (by decide) HQ.out.2.2.2.2.1).mono ?_
            rintro e' w' ⟨rfl, q4, rfl⟩
            go_wp2_with fail
            refine (turn32_lit e 11 11 _ rfl (by decide) HQ.out.2.2.2.2.1).mono ?_
            rintro e' w' ⟨rfl, q5, rfl⟩
            go_wp2_with fail
            refine (turn32_lit e 25 25 _ rfl (by decide) HQ.out.2.2.2.2.1).mono ?_
            rintro e' w' ⟨rfl, q6, rfl⟩
            go_wp2_with fail
            rw [← HA.out, ← HE.out]
            generalize q1 + q2 + q3 + q4 + q5 + q6 = qq at *
            generalize bigA 32 a = bA at *
            generalize bigE 32 e = bE at *
            clear HA HE
            go_quiet (fail)
            generalize add 32 (add 32 (add 32 (add 32 h bE) (bx 32 (ba 32 e f) (ba 32 (bn 32 e) g))) kk) ww = F1 at *
            clear hk2 rk rn rs ck cw hti2
            go_wp2_with fail
            go_roundw
            case rel => exact ⟨t + 1, by omega, by go_num, (by rw [HST.out]; exact ⟨rfl, rfl, rfl, rfl, rfl, rfl, rfl, rfl⟩), J1.out, J2.out, J3.out, below_drewN hbel _⟩
            case measure => simp [intOf]; omega
          · 
            obtain rfl : t = 64 := by omega
            rw [show ((64 : Nat) : Int) = 64 from rfl]
            have HBB := Lib.hid (built93 a b' c' d e f g h)
            go_wp2_with (refine wpList_build_is rfl 93 _ rfl _ ?hb ?_; case hb => (simp only [List.map_toArray, List.map_cons, List.map_nil]; exact HBB.out))
            clear HBB
            have HM := Lib.hid (show mix 32 [a0, b0, c0, d0, e0, f0, g0, h0] l = List.zipWith (add 32) [a0, b0, c0, d0, e0, f0, g0, h0] [a, b', c', d, e, f, g, h] from by
              unfold mix; rw [rounds32, HEQ.out]; rfl)
            obtain ⟨s8, hs8⟩ : ∃ s8, s8 = [a0, b0, c0, d0, e0, f0, g0, h0] := ⟨_, rfl⟩
            obtain ⟨v8, hv8⟩ : ∃ v8, v8 = [a, b', c', d, e, f, g, h] := ⟨_, rfl⟩
            have HIX := Lib.hid (show ∀ (k : Nat) (hk : k < 8) (w0 : World), (Instr.index 93 (.agg #[.int .u32 (a : Nat), .int .u32 (b' : Nat), .int .u32 (c' : Nat), .int .u32 (d : Nat), .int .u32 (e : Nat), .int .u32 (f : Nat), .int .u32 (g : Nat), .int .u32 (h : Nat)]) (.int .i64 (k : Nat))).run Tryd.prog w0 = .ok (.int .u32 ([a, b', c', d, e, f, g, h].getD k 0 : Nat)) w0 from
              fun (k : Nat) (hk : k < 8) (w0 : World) => (index_nats (P := Tryd.prog) w0 93 89 8 .u32 [a, b', c', d, e, f, g, h] k Tryd.underlying93 Tryd.underlying89 info89 hk rfl))
            obtain ⟨m8, hm8⟩ : ∃ m8, mix 32 [a0, b0, c0, d0, e0, f0, g0, h0] l = m8 := ⟨_, rfl⟩
            have HL8 := Lib.hid (show m8.length = 8 from by rw [← hm8]; exact mix_length HS.out)
            have HM8 := Lib.hid hm8
            rw [hm8] at HM
            clear hm8
            rw [← hv8] at HIX HM
            rw [← hs8] at HM HSB HS J1 ⊢
            have hvl : v8.length = 8 := by rw [hv8]; rfl
            have HVL := Lib.hid hvl
            clear hs8 hvl J3
            have J1' := Lib.hid (show Blk wr w.heap.size 66 (natsV .u64 (sumTo 32 s8 v8 0)) from by rw [sumTo_zero]; exact J1.out)
            clear J1
            go_loopw [179] (fun i wr' => ∃ k : Nat, k ≤ 8 ∧ i = .int .i64 k ∧ Blk wr' w.heap.size 66 (natsV .u64 (sumTo 32 s8 v8 k)) ∧ Blk wr' (w.heap.size + 1) 66 (natsV .u64 (zeros 8)) ∧ Below w.heap.size w wr') (fun i _ => 8 - (intOf i).toNat)
            case atStart => exact ⟨0, by omega, rfl, J1'.out, J2.out, hbel⟩
            case round =>
              clear hbel J1' J2
              obtain ⟨k, hk, rfl, j1, j2, hbel⟩ := hrel
              have J1 := Lib.hid j1
              have J2 := Lib.hid j2
              clear j1 j2
              by_cases h8 : k < 8
              · have hix := HIX.out k h8
                have hl1 := sumTo_length 32 s8 v8 k (by rw [HVL.out, HS.out]) (by rw [HS.out]; omega)
                have hcell := J1.out.nat k (by rw [hl1, HS.out]; exact h8)
                rw [sumTo_get 32 s8 v8 k (by rw [HVL.out, HS.out]) (by rw [HS.out]; exact h8)] at hcell
                have hfree := J1.out.free k
                have HSET := Lib.hid (sumTo_set 32 s8 v8 k (by rw [HVL.out, HS.out]) (by rw [HS.out]; exact h8))
                have hsk : s8.getD k 0 < 4294967296 := getD_lt' HSB.out (by decide) k
                clear hl1
                generalize s8.getD k 0 = sk at *
                generalize v8.getD k 0 = vk at *
                have hadd := add_lt 32 sk vk
                have hadd' : add 32 sk vk < 4294967296 := hadd
                clear hadd
                have ra := u32_add
                have ra' := u32_add'
                have hki : (k : Int) < 8 := by omega
                go_wp2_with fail
                have j1 := J1.out.natSet k (add 32 sk vk)
                rw [HSET.out] at j1
                have hb2 := hbel.setCell (p := ⟨w.heap.size, k, none⟩) (Nat.le_refl _) (.int .u64 (add 32 sk vk : Nat))
                have j2 := J2.out.other ⟨w.heap.size, k, none⟩ (.int .u64 (add 32 sk vk : Nat)) (by simp)
                go_roundw
                case rel => exact ⟨k + 1, by omega, by go_num, j1, j2, hb2⟩
                case measure => simp [intOf]; omega
              · obtain rfl : k = 8 := by omega
                rw [sumTo_all 32 s8 v8 HS.out HVL.out, ← HM.out] at J1
                clear HM
                rw [show ((8 : Nat) : Int) = 8 from rfl]
                go_wp2_with (first | (refine wpList_load_row rfl 66 (.tmp 2) rfl w.heap.size rfl 66 (natsV .u64 m8).toArray (0, 0) _ J1.out Tryd.underlying66 rfl (by rw [info66, size_nats, HL8.out]) ?_) | (refine wpList_store_row rfl 66 (.tmp 4) (.tmp 193) rfl (w.heap.size + 1) (natsV .u64 m8).toArray rfl rfl 66 (natsV .u64 (zeros 8)).toArray J2.out (by rw [info66, size_nats, HL8.out]) (by rw [size_nats, size_nats, HL8.out]; rfl) (all_nats _ _) ?_))
                have j2 := J2.out.setRow (natsV .u64 m8)
                have hb2 := below_setRow' hbel (show w.heap.size ≤ w.heap.size + 1 by omega) (natsV .u64 m8).toArray
                refine bodyPost_ret (v := .agg (natsV .u64 m8).toArray) ?_ rfl ⟨by rw [HM8.out], hb2⟩
                exact results_cell_row Tryd.results55 _ _ (w.heap.size + 1) 66 _ (0, 0) _ rfl j2 Tryd.underlying66 rfl (by rw [info66, size_nats, HL8.out])
end Go.Proofs.YtnikhnpigopihaaDoor
