/- Parts of proofs of statements, each text behind those that it stands on. No condition of its own. -/
import Derived.RowKit
import Derived.Test.YtdkkombpkojjaaaGreatC04
namespace Go.Proofs.YtdkkombpkojjaaaGreat
set_option maxRecDepth 100000
set_option maxHeartbeats 1600000
open Go.RowKit
set_option linter.unusedVariables false
set_option linter.unusedSimpArgs false
theorem pow16 : (2 ^ 16) ^ 16 = 2 ^ 256 := by rw [← Nat.pow_mul]
theorem rd16_own {w : World} {B n g c V : Nat} (h : w.ownsRow B 77 1 (.slice (some ⟨g, 0, none⟩) n c) n (natsV .u32 (tell (dgt (2 ^ 16) V) n))) : Rd16 w g n V := fun i hi => by
 have := h.cellAt i (by omega)
 rw [this, natsV_get _ _ _ (by rw [tell_length]; exact hi), tell_getD _ _ _ hi]
theorem Rd16.set {w : World} {g n V : Nat} (h : Rd16 w g n V) (a : Addr) (v : Value) (hne : g ≠ a.block) : Rd16 (w.setCell a v) g n V := fun i hi => by
 rw [World.cell?_setCell_other w a ⟨g, i, none⟩ v (fun e => hne (by rw [e]))]; exact h i hi
theorem Rd16.lt {w : World} {g n V : Nat} (h : Rd16 w g n V) (hn : 0 < n) : g < w.heap.size := World.block_lt_of_cell? w _ (h 0 hn)
theorem refAdd_any (a b : Nat) (w : World) (ha : a < 2 ^ 256) (hb : b < 2 ^ 256) :
   Calls Tryz.prog 24 #[.agg (natsV .u64 (wds 4 a)).toArray, .agg (natsV .u64 (wds 4 b)).toArray] w fun e w' => e = .returned (.tuple #[.agg (natsV .u64 (wds 4 (a + b))).toArray, .int .i64 (addC a b : Nat)]) ∧ Below w.heap.size w w' := by
 obtain ⟨V, hV⟩ : ∃ V, V = a + b := ⟨_, rfl⟩
 rw [← hV]
 have HV := Hd hV
 have C0 := Hd (cyA_zero (2 ^ 16) a b 0)
 have CLE := Hd (fun t => cyA_le (B := 2 ^ 16) (by decide) a b 0 t (by omega))
 have HDG := Hd (fun t (_ : t < 16) => show dgt (2 ^ 16) V t = (dgt (2 ^ 16) a t + dgt (2 ^ 16) b t + cyA (2 ^ 16) a b 0 t) % 2 ^ 16 from HV.out ▸ dgt_sum (B := 2 ^ 16) (by decide) a b 0 t)
 have HCS := Hd (fun t (_ : t < 16) => cyA_succ (B := 2 ^ 16) (by decide) a b 0 t)
 clear hV
 have HACL := Hd (show addC a b ≤ 1 by unfold addC; omega)
 have CF := Hd (show cyA (2 ^ 16) a b 0 16 = addC a b from by rw [cyA_top (by rw [pow16]; exact ha) (by rw [pow16]; exact hb), pow16]; rfl)
 have LS := Hd (wds_len 4 V)
 have LA := Hd (wds_len 4 a)
 have LB := Hd (wds_len 4 b)
 have DA := Hd (fun w => Digits_any a w)
 have DB := Hd (fun w => Digits_any b w)
 have HN := Hd (fun (w : World) (g c : Nat) (h : Rd16 w g 16 V) => Num_any V 16 c g w h (by omega) (by omega))
 have T0 := Hd (tell_length (dgt (2 ^ 16) a) 16)
 have T1 := Hd (tell_length (dgt (2 ^ 16) V) 16)
 have G0 := Hd (fun i hi => tell_getD (dgt (2 ^ 16) a) 16 i hi)
 have G1 := Hd (fun i hi => tell_getD (dgt (2 ^ 16) V) 16 i hi)
 have RO := Hd (fun (w : World) (B g c : Nat) (h : w.ownsRow B 77 1 (.slice (some ⟨g, 0, none⟩) 16 c) 16 (natsV .u32 (tell (dgt (2 ^ 16) V) 16))) => rd16_own h)
 have MD := Hd (fun (w w' : World) (e : Ending) (h : Made32 (tell (dgt (2 ^ 16) a) 16) w e w') => made16 h (by decide))
 generalize wds 4 V = ls at *
 generalize wds 4 a = la at *
 generalize wds 4 b = lb at *
 generalize tell (dgt (2 ^ 16) a) 16 = xa at *
 generalize tell (dgt (2 ^ 16) V) 16 = xs at *
 have B1 := Hd (((Blk.new w 26 (natsV .u64 la)).alloc (.cells (natsV .u64 lb).toArray 26)).alloc (.cells (natsV .u64 (zeros 4)).toArray 26))
 have B2 := Hd ((Blk.new2 w (.cells (natsV .u64 la).toArray 26) 26 (natsV .u64 lb)).alloc (.cells (natsV .u64 (zeros 4)).toArray 26))
 have B3 := Hd (Blk.new3 w (.cells (natsV .u64 la).toArray 26) (.cells (natsV .u64 lb).toArray 26) 26 (natsV .u64 (zeros 4)))
 have BEL := Hd ((((Below.refl w.heap.size w).alloc (Nat.le_refl _) (.cells (natsV .u64 la).toArray 26)).alloc (by simp) (.cells (natsV .u64 lb).toArray 26)).alloc (by simp; omega) (.cells (natsV .u64 (zeros 4)).toArray 26))
 go_enter Tryz.func24, Tryz.ntmps24
 go_wp2_with (first | (refine ld24 rfl (.tmp 2) rfl w.heap.size rfl la B1.out LA.out ?_))
 refine (DA.out _).mono ?_
 rintro e w1 hm
 obtain ⟨gx, cx, rfl, hgx, hcx, hown0, _, hb1⟩ := MD.out _ _ _ hm
 have C2 := Hd (B2.out.below' hb1)
 have C3 := Hd (B3.out.below' hb1)
 have hbel1 := BEL.out.trans (hb1.mono BEL.out.size)
 have OX := Hd (own_low hown0 (show w.heap.size + 1 + 1 + 1 ≤ _ by simp))
 have hgx2 : w.heap.size + 1 + 1 < gx := by simp at hgx; omega
 clear B1 B2 B3 BEL hb1 hm hgx hown0 MD DA
 go_wp2_with (first | (refine ld24 rfl (.tmp 3) rfl (w.heap.size + 1) rfl lb C2.out LB.out ?_))
 refine (DB.out _).mono ?_
 rintro e w2 hm
 obtain ⟨gy, cy0, rfl, hgy, hcy, _, hrd, hb2⟩ := made16 hm (by decide)
 have D3 := Hd (C3.out.below' hb2)
 have hbel2 := hbel1.trans (hb2.mono hbel1.size)
 have OX2 := Hd (own_below OX.out hb2)
 have RY := Hd hrd
 have hgxy : gx < gy := Nat.lt_of_lt_of_le (OX.out.lt gx rfl).2 hgy
 clear C2 C3 hbel1 hb2 hm OX hrd DB hgy
 go_wp2_with fail
 go_loopw [8, 9] (fun cc i wr => ∃ t : Nat, t ≤ 16 ∧ i = .int .i64 t ∧ cc = .int .u32 (cyA (2 ^ 16) a b 0 t : Nat) ∧ wr.ownsRow (w.heap.size + 1 + 1 + 1) 77 1 (.slice (some ⟨gx, 0, none⟩) 16 cx) 16 (natsV .u32 (xs.take t ++ xa.drop t)) ∧ Rd16 wr gy 16 b ∧ Blk wr (w.heap.size + 1 + 1) 26 (natsV .u64 (zeros 4)) ∧ Below w.heap.size w wr) (fun _ i _ => 16 - (intOf i).toNat)
 case atStart => exact ⟨0, by omega, rfl, by rw [C0.out]; rfl, by simpa using OX2.out, RY.out, D3.out, hbel2⟩
 case round =>
   clear OX2 RY D3 hbel2
   obtain ⟨t, ht, rfl, rfl, hown, hrd, k3, hbel⟩ := hrel
   by_cases h5 : t < 16
   · as_aux_lemma =>
     have hti : (t : Int) < 16 := by omega
     have hti2 : (t : Int) < ((16 : Nat) : Int) := by omega
     have c0 := (hown.cellAt t (by omega)).trans (natsV_get .u32 _ t (by rw [mix_len xs xa t 16 T1.out T0.out ht]; exact h5))
     have hf := hown.frozenAt t
     rw [mix_get xs xa t 16 T1.out T0.out h5, G0.out t h5] at c0
     have c1 := hrd t h5
     have HSET := Hd (mix_set xs xa t 16 T1.out T0.out h5)
     rw [G1.out t h5] at HSET
     have OX := Hd hown
     have RY := Hd hrd
     have K3 := Hd k3
     have HXD := dgt_lt (B := 2 ^ 16) (by decide) a t
     have HYD := dgt_lt (B := 2 ^ 16) (by decide) b t
     have CL := CLE.out t
     have HD := Hd (HDG.out t h5)
     have HCY := Hd (HCS.out t h5)
     clear hown hrd k3
     generalize dgt (2 ^ 16) V t = sv at *
     generalize dgt (2 ^ 16) a t = x at *
     generalize dgt (2 ^ 16) b t = y at *
     generalize cyA (2 ^ 16) a b 0 t = cy at *
     have r1 : IntKind.u32.wrap ((x : Int) + (y : Int)) = ((x + y : Nat) : Int) := by rw [IntKind.wrap_u32']; omega
     have r1' : ((x : Int) + (y : Int)) % 4294967296 = ((x + y : Nat) : Int) := by omega
     obtain ⟨S1, hS1⟩ : ∃ S1, S1 = x + y := ⟨_, rfl⟩
     rw [← hS1] at r1 r1'
     have r2 : IntKind.u32.wrap ((S1 : Int) + (cy : Int)) = ((S1 + cy : Nat) : Int) := by rw [IntKind.wrap_u32']; omega
     have r2' : ((S1 : Int) + (cy : Int)) % 4294967296 = ((S1 + cy : Nat) : Int) := by omega
     obtain ⟨S2, hS2⟩ : ∃ S2, S2 = S1 + cy := ⟨_, rfl⟩
     rw [← hS2] at r2 r2'
     have HS2 := Hd (show S2 = x + y + cy by omega)
     have hS2l : S2 < 262144 := by omega
     clear hS1 hS2
     rw [← HS2.out] at HD HCY
     go_wp2_with fail
     go_quiet (fail)
     have OX3 := (OX.out.stored t (.int .u32 (sv : Nat)))
     clear r1 r1' r2 r2'
     rw [natsV_set, HSET.out] at OX3
     have O4 := Hd OX3.1
     have RY2 := Hd (RY.out.set ⟨gx, t, none⟩ (.int .u32 (sv : Nat)) (by simp; omega))
     have K4 := Hd (K3.out.other ⟨gx, t, none⟩ (.int .u32 (sv : Nat)) (by simp; omega))
     have hb4 := (below_drewN hbel nq).setCell (p := ⟨gx, t, none⟩) (by simp; omega) (.int .u32 (sv : Nat))
     clear OX3 OX RY K3
     have rq : ((S2 : Nat) : Int) % 65536 = ((sv : Nat) : Int) := by rw [HD.out]; omega
     go_wp2_with fail
     go_roundw
     case rel => exact ⟨t + 1, by omega, by go_num, by rw [HCY.out]; go_num, O4.out, RY2.out, K4.out, hb4⟩
     case measure => simp [intOf] <;> omega
   · obtain rfl : t = 16 := by omega
     rw [show ((16 : Nat) : Int) = 16 from rfl]
     have LE := Hd (show xs.take 16 ++ xa.drop 16 = xs by rw [List.take_of_length_le (by rw [T1.out]; decide), List.drop_of_length_le (by rw [T0.out]; decide), List.append_nil])
     rw [LE.out] at hown
     have RX := Hd (RO.out _ _ _ _ hown)
     rw [CF.out]
     have K3 := Hd k3
     have HAC := HACL.out
     clear hown hrd k3
     go_wp2_with fail
     refine (HN.out _ _ _ RX.out).mono ?_
     rintro e w3 ⟨rfl, hb3⟩
     have J3 := Hd (K3.out.below' hb3)
     have hbel3 := hbel.trans (hb3.mono hbel.size)
     have j := J3.out.setRow (natsV .u64 ls)
     have hb2 := below_setRow' hbel3 (show w.heap.size ≤ w.heap.size + 1 + 1 by omega) (natsV .u64 ls).toArray
     clear K3 hb3 hbel RX
     go_wp2_with (refine st24 rfl (.tmp 4) (.tmp 38) rfl (w.heap.size + 1 + 1) rfl ls rfl LS.out (zeros 4) J3.out rfl ?_)
     refine bodyPost_ret (v := .tuple #[.agg (natsV .u64 ls).toArray, .int .i64 (addC a b : Nat)]) ?_ rfl ⟨rfl, hb2⟩
     exact ret24x Tryz.results24 _ _ (w.heap.size + 1 + 1) ls _ rfl rfl j LS.out
theorem dgt16_lo (x i : Nat) : dgt (2 ^ 16) x i % 256 = dgt 256 x (2 * i) := by
 unfold dgt
 rw [show (256 : Nat) = 2 ^ 8 from rfl, ← Nat.pow_mul, ← Nat.pow_mul, show 16 * i = 8 * (2 * i) by omega, Nat.mod_mod_of_dvd _ (by decide)]
theorem dgt16_hi (x i : Nat) : dgt (2 ^ 16) x i / 256 = dgt 256 x (2 * i + 1) := by
 unfold dgt
 rw [show (256 : Nat) = 2 ^ 8 from rfl, ← Nat.pow_mul, ← Nat.pow_mul, show 8 * (2 * i + 1) = 16 * i + 8 by omega, Nat.pow_add, ← Nat.div_div_eq_div_mul]
 generalize x / 2 ^ (16 * i) = y
 omega
def lastB (x t : Nat) : List Nat := tell (fun j => if 32 - t ≤ j then dgt 256 x (31 - j) else 0) 32
theorem lastB_zero (x : Nat) : lastB x 0 = zeros 32 := by
 have : lastB x 0 = tell (fun _ => 0) 32 := tell_congr fun i hi => if_neg (by omega)
 rw [this]; rfl
theorem lastB_all (x : Nat) : lastB x 32 = bytesOf_ x := tell_congr fun i hi => if_pos (by omega)
theorem lastB_set (x t : Nat) (ht : t < 32) : (lastB x t).set (31 - t) (dgt 256 x t) = lastB x (t + 1) := by
 unfold lastB
 rw [tell_set]
 refine tell_congr fun i hi => ?_
 by_cases h : i = 31 - t
 · rw [if_pos h, if_pos (by omega)]; congr 1; omega
 · rw [if_neg h]
   by_cases h2 : 32 - t ≤ i
   · rw [if_pos h2, if_pos (by omega)]
   · rw [if_neg h2, if_neg (by omega)]
theorem lastB_len (x t : Nat) : (lastB x t).length = 32 := tell_length _ _
theorem refOf_any (A : Option Addr) (c : Nat) (l : List Nat) (w : World) (h : BIn w A 32 c l) :
   Calls Tryz.prog 23 #[.slice A 32 c] w fun e w' => e = .returned (.agg (natsV .u64 (wds 4 (be l))).toArray) ∧ Below w.heap.size w w' := by
 have HIN := Hd h
 have HLT := Hd h.1.2.2.1
 have HUS := Hd (fun t (ht : t < 32) => pOf_step l h.1.1 h.1.2.2.1 t ht)
 have LS := Hd (wds_len 4 (be l))
 have HU0 := Hd (pOf_zero (be l))
 have HU1 := Hd (pOf_all (be l))
 clear h
 generalize wds 4 (be l) = ls at *
 have B1 := Hd ((Blk.new w 26 (natsV .u64 (zeros 4))).alloc (.cells (natsV .u64 (zeros 4)).toArray 26))
 have B2 := Hd (Blk.new2 w (.cells (natsV .u64 (zeros 4)).toArray 26) 26 (natsV .u64 (zeros 4)))
 have BEL := Hd (((Below.refl w.heap.size w).alloc (Nat.le_refl _) (.cells (natsV .u64 (zeros 4)).toArray 26)).alloc (by simp) (.cells (natsV .u64 (zeros 4)).toArray 26))
 go_enter Tryz.func23, Tryz.ntmps23
 go_wp2_with fail
 go_loopw [4] (fun i wr => ∃ t : Nat, t ≤ 32 ∧ i = .int .i64 t ∧ Blk wr w.heap.size 26 (natsV .u64 (zeros 4)) ∧ Blk wr (w.heap.size + 1) 26 (natsV .u64 (tell (pOf (be l) t) 4)) ∧ Below w.heap.size w wr) (fun i _ => 32 - (intOf i).toNat)
 case atStart => exact ⟨0, by omega, rfl, B1.out, by rw [HU0.out]; exact B2.out, BEL.out⟩
 case round =>
   clear B1 B2 BEL HU0
   obtain ⟨t, ht, rfl, k1, k2, hbel⟩ := hrel
   have K1 := Hd k1
   have K2 := Hd k2
   clear k1 k2
   by_cases h5 : t < 32
   · as_aux_lemma =>
     have hti : (t : Int) < 32 := by omega
     obtain ⟨b0, o0, rfl, hc⟩ := HIN.out.1.2.2.2.resolve_left (by omega)
     have c0 := (hbel.cell (World.block_lt_of_cell? w _ (hc t h5))).trans (hc t h5)
     have hlt := getD_lt HLT.out t
     have HUT := Hd (HUS.out t h5)
     have hsm := pOf_small (be l) t h5
     clear hc
     obtain ⟨k, hk⟩ : ∃ k, k = t / 8 := ⟨_, rfl⟩
     obtain ⟨j, hj⟩ : ∃ j, j = 3 - t / 8 := ⟨_, rfl⟩
     rw [← hj] at HUT hsm
     have hj4 : j < 4 := by omega
     have hji : (j : Int) < 4 := by omega
     have e1 : (t : Int) / 8 = (k : Int) := by omega
     have e2 : IntKind.i64.wrap (3 - (k : Int)) = (j : Int) := by rw [IntWalk.i64_in _ (by omega)]; omega
     have e2b : 3 - (k : Int) = (j : Int) := by omega
     clear hj hk
     generalize l.getD t 0 = v at *
     have c1 := K2.out.nat j (by rw [tell_length]; exact hj4)
     have f1 := K2.out.free j
     rw [tell_getD _ _ _ hj4] at c1
     obtain ⟨d, hd⟩ : ∃ d, d = pOf (be l) t j := ⟨_, rfl⟩
     rw [← hd] at c1 hsm HUT
     clear hd
     obtain ⟨u, hu⟩ : ∃ u, u = d * 256 := ⟨_, rfl⟩
     obtain ⟨nv, hnv⟩ : ∃ nv, nv = u + v := ⟨_, rfl⟩
     rw [← hu, ← hnv] at HUT
     have r1 : IntKind.u64.wrap ((d : Int) * 256) = (u : Int) := by rw [IntKind.wrap_u64]; omega
     have r1b : IntKind.u64.wrap (v : Int) = (v : Int) := by rw [u64_cut, Nat.mod_eq_of_lt (by omega)]
     have r2 : IntKind.u64.wrap ((u : Int) + (v : Int)) = (nv : Int) := by rw [IntKind.wrap_u64]; omega
     clear hu hnv
     go_wp2_with fail
     go_region
     all_goals
       have n1 := K1.out.other ⟨w.heap.size + 1, j, none⟩ (.int .u64 (nv : Nat)) (by simp)
       have n2 := K2.out.natSet j nv
       have hb2 := hbel.setCell (p := ⟨w.heap.size + 1, j, none⟩) (by simp) (.int .u64 (nv : Nat))
       clear r1 r1b r2 c1 f1 c0 e2 e2b e1
       rw [HUT.out] at n2
       have N1 := Hd n1.drew
       have N2 := Hd n2.drew
       have hb3 := hb2.drew
       clear n1 n2 K1 K2 hb2 hbel
       go_wp2_with fail
       go_roundw
       case rel => exact ⟨t + 1, by omega, by go_num, N1.out, N2.out, hb3⟩
       case measure => simp [intOf] <;> omega
   · obtain rfl : t = 32 := by omega
     rw [show ((32 : Nat) : Int) = 32 from rfl]
     rw [HU1.out] at K2
     have j2 := K1.out.setRow (natsV .u64 ls)
     have hb2 := below_setRow' hbel (Nat.le_refl _) (natsV .u64 ls).toArray
     go_wp2_with (first | (refine ld24 rfl (.tmp 3) rfl (w.heap.size + 1) rfl ls K2.out LS.out ?_) | (refine st24 rfl (.tmp 2) (.tmp 26) rfl w.heap.size rfl ls rfl LS.out (zeros 4) K1.out rfl ?_))
     refine bodyPost_ret (v := .agg (natsV .u64 ls).toArray) ?_ rfl ⟨rfl, hb2⟩
     exact ret24 Tryz.results23 _ _ w.heap.size ls rfl j2 LS.out
theorem refBytes_any (x : Nat) (w : World) : Calls Tryz.prog 25 #[.agg (natsV .u64 (wds 4 x)).toArray] w fun e w' => e = .returned (.agg (natsV .u8 (bytesOf_ x)).toArray) ∧ Below w.heap.size w w' := by
 have HD := Hd (fun w => Digits_any x w)
 have LA := Hd (wds_len 4 x)
 have LS := Hd (bytesOf_len x)
 have HU0 := Hd (lastB_zero x)
 have HU1 := Hd (lastB_all x)
 generalize wds 4 x = la at *
 generalize bytesOf_ x = ls at *
 have B1 := Hd (((Blk.new w 26 (natsV .u64 la)).alloc (.cells (natsV .u8 (zeros 32)).toArray 53)).alloc (.cells (natsV .u8 (zeros 32)).toArray 53))
 have B2 := Hd ((Blk.new2 w (.cells (natsV .u64 la).toArray 26) 53 (natsV .u8 (zeros 32))).alloc (.cells (natsV .u8 (zeros 32)).toArray 53))
 have B3 := Hd (Blk.new3 w (.cells (natsV .u64 la).toArray 26) (.cells (natsV .u8 (zeros 32)).toArray 53) 53 (natsV .u8 (zeros 32)))
 have BEL := Hd ((((Below.refl w.heap.size w).alloc (Nat.le_refl _) (.cells (natsV .u64 la).toArray 26)).alloc (by simp) (.cells (natsV .u8 (zeros 32)).toArray 53)).alloc (by simp; omega) (.cells (natsV .u8 (zeros 32)).toArray 53))
 go_enter Tryz.func25, Tryz.ntmps25
 go_wp2_with (refine ld24 rfl (.tmp 1) rfl w.heap.size rfl la B1.out LA.out ?_)
 refine (HD.out _).mono ?_
 rintro e w1 hm
 obtain ⟨gx, cx, rfl, hgx, hcx, _, hrd, hb1⟩ := made16 hm (by decide)
 have C2 := Hd (B2.out.below' hb1)
 have C3 := Hd (B3.out.below' hb1)
 have RX := Hd hrd
 have hbel1 := BEL.out.trans (hb1.mono BEL.out.size)
 have hgx2 : w.heap.size + 1 + 1 < gx := by simp at hgx; omega
 clear B1 B2 B3 BEL hb1 hm hgx hrd HD
 go_wp2_with fail
 go_loopw [5] (fun i wr => ∃ t : Nat, t ≤ 16 ∧ i = .int .i64 t ∧ Rd16 wr gx 16 x ∧ Blk wr (w.heap.size + 1) 53 (natsV .u8 (zeros 32)) ∧ Blk wr (w.heap.size + 1 + 1) 53 (natsV .u8 (lastB x (2 * t))) ∧ Below w.heap.size w wr) (fun i _ => 16 - (intOf i).toNat)
 case atStart => exact ⟨0, by omega, rfl, RX.out, C2.out, by rw [HU0.out]; exact C3.out, hbel1⟩
 case round =>
   clear RX C2 C3 hbel1 HU0
   obtain ⟨t, ht, rfl, hrd, k2, k3, hbel⟩ := hrel
   have RX := Hd hrd
   have K2 := Hd k2
   have K3 := Hd k3
   clear k2 k3
   by_cases h5 : t < 16
   · as_aux_lemma =>
     have hti : (t : Int) < 16 := by omega
     have c0 := hrd t h5
     have HS1 := Hd (lastB_set x (2 * t) (by omega))
     have HS2 := Hd (lastB_set x (2 * t + 1) (by omega))
     clear hrd
     rw [← dgt16_lo, show 31 - 2 * t = 31 - 2 * t from rfl] at HS1
     rw [← dgt16_hi, show 31 - (2 * t + 1) = 30 - 2 * t by omega, show 2 * t + 1 + 1 = 2 * (t + 1) by omega] at HS2
     have hdl := dgt_lt (B := 2 ^ 16) (by decide) x t
     obtain ⟨d, hd⟩ : ∃ d, d = dgt (2 ^ 16) x t := ⟨_, rfl⟩
     rw [← hd] at HS1 HS2 hdl c0
     have HDE := Hd hd
     clear hd
     obtain ⟨p, hp⟩ : ∃ p, p = 31 - 2 * t := ⟨_, rfl⟩
     obtain ⟨q, hq⟩ : ∃ q, q = 30 - 2 * t := ⟨_, rfl⟩
     obtain ⟨v1, hv1⟩ : ∃ v, v = d % 256 := ⟨_, rfl⟩
     obtain ⟨v2, hv2⟩ : ∃ v, v = d / 256 := ⟨_, rfl⟩
     rw [← hp, ← hv1] at HS1
     rw [← hq, ← hv2] at HS2
     have e1 : 31 - 2 * (t : Int) = (p : Int) := by omega
     have e2 : 30 - 2 * (t : Int) = (q : Int) := by omega
     have hpi : (p : Int) < 32 := by omega
     have hqi : (q : Int) < 32 := by omega
     have rv1 : (d : Int) % 256 = (v1 : Int) := by omega
     have rv2 : (d : Int) / 256 = (v2 : Int) := by omega
     have rw1 : IntKind.u8.wrap (v1 : Int) = (v1 : Int) := by rw [IntKind.wrap_u8]; omega
     have rw2 : IntKind.u8.wrap (v2 : Int) = (v2 : Int) := by rw [IntKind.wrap_u8]; omega
     have hpl : p < 32 := by omega
     have hql : q < 32 := by omega
     have c3 := K3.out.nat p (by rw [lastB_len]; exact hpl)
     have f3 := K3.out.free p
     have J := K3.out.natSet p v1
     rw [HS1.out] at J
     have c4 := J.nat q (by rw [lastB_len]; exact hql)
     have f4 := J.free q
     have n3 := Hd (J.natSet q v2)
     clear hp hq hv1 hv2
     rw [HS2.out] at n3
     have n2 := Hd ((K2.out.other ⟨w.heap.size + 1 + 1, p, none⟩ (.int .u8 (v1 : Nat)) (by simp)).other ⟨w.heap.size + 1 + 1, q, none⟩ (.int .u8 (v2 : Nat)) (by simp))
     have n1 := Hd ((RX.out.set ⟨w.heap.size + 1 + 1, p, none⟩ (.int .u8 (v1 : Nat)) (by simp; omega)).set ⟨w.heap.size + 1 + 1, q, none⟩ (.int .u8 (v2 : Nat)) (by simp; omega))
     have c0b := (RX.out.set ⟨w.heap.size + 1 + 1, p, none⟩ (.int .u8 (v1 : Nat)) (by simp; omega)) t h5
     rw [← HDE.out] at c0b
     have hb2 := Hd ((hbel.setCell (p := ⟨w.heap.size + 1 + 1, p, none⟩) (by simp; omega) (.int .u8 (v1 : Nat))).setCell (p := ⟨w.heap.size + 1 + 1, q, none⟩) (by simp; omega) (.int .u8 (v2 : Nat)))
     clear J K2 K3 RX hbel
     go_wp2_with fail
     go_roundw
     case rel => exact ⟨t + 1, by omega, by go_num, n1.out, n2.out, n3.out, hb2.out⟩
     case measure => simp [intOf] <;> omega
   · obtain rfl : t = 16 := by omega
     rw [show ((16 : Nat) : Int) = 16 from rfl]
     rw [show 2 * 16 = 32 from rfl, HU1.out] at K3
     have j2 := K2.out.setRow (natsV .u8 ls)
     have hb2 := below_setRow' hbel (show w.heap.size ≤ w.heap.size + 1 by omega) (natsV .u8 ls).toArray
     go_wp2_with (first | (refine ld90 rfl (.tmp 3) rfl (w.heap.size + 1 + 1) rfl ls K3.out LS.out ?_) | (refine st90 rfl (.tmp 2) (.tmp 32) rfl (w.heap.size + 1) rfl ls rfl LS.out (zeros 32) K2.out rfl ?_))
     refine bodyPost_ret (v := .agg (natsV .u8 ls).toArray) ?_ rfl ⟨rfl, hb2⟩
     exact results_cell_row Tryz.results25 _ _ (w.heap.size + 1) 53 _ (0, 0) _ rfl j2 Tryz.underlying53 rfl (by rw [info90, size_nats, LS.out])
theorem cmpZ_self (a : Nat) : cmpZ a a = 0 := by unfold cmpZ; rw [if_neg (Nat.lt_irrefl a), if_pos rfl]
theorem cmpZ_lt {a b : Nat} (h : a < b) : cmpZ a b = -1 := if_pos h
theorem cmpZ_gt {a b : Nat} (h : b < a) : cmpZ a b = 1 := by unfold cmpZ; rw [if_neg (by omega), if_neg (by omega)]
theorem Cmp_any (a b : Nat) (w : World) (ha : a < 2 ^ 256) (hb : b < 2 ^ 256) : Calls Tryz.prog 104 #[.agg (natsV .u64 (wds 4 a)).toArray, .agg (natsV .u64 (wds 4 b)).toArray] w fun e w' => e = .returned (.int .i64 (cmpZ a b)) ∧ Below w.heap.size w w' := by
 have HS := Hd (fun w => Sub_any a b w ha hb)
 have LS := Hd (wds_len 4 (a + 2 ^ 256 - b))
 have LA := Hd (wds_len 4 a)
 have LB := Hd (wds_len 4 b)
 have HI := wds_inj 4 a b ha hb
 have q := (fun w => eql24 (wds 4 a) (wds 4 b) LA.out LB.out w)
 rw [HI] at q
 clear HI
 generalize wds 4 (a + 2 ^ 256 - b) = ls at *
 generalize wds 4 a = la at *
 generalize wds 4 b = lb at *
 have B1 := Hd ((Blk.new w 26 (natsV .u64 la)).alloc (.cells (natsV .u64 lb).toArray 26))
 have B2 := Hd (Blk.new2 w (.cells (natsV .u64 la).toArray 26) 26 (natsV .u64 lb))
 have BEL := Hd (((Below.refl w.heap.size w).alloc (Nat.le_refl _) (.cells (natsV .u64 la).toArray 26)).alloc (by simp) (.cells (natsV .u64 lb).toArray 26))
 have hbel := BEL.out
 by_cases hab : a = b
 · rw [decide_eq_true hab] at q
   subst hab
   rw [cmpZ_self]
   go_enter Tryz.func104, Tryz.ntmps104
   go_wp2_with (first | (refine ld24 rfl (.tmp 2) rfl w.heap.size rfl la B1.out LA.out ?_) | (refine ld24 rfl (.tmp 3) rfl (w.heap.size + 1) rfl lb B2.out LB.out ?_))
   go_ret
   exact ⟨rfl, hbel⟩
 · rw [decide_eq_false hab] at q
   by_cases hlt : a < b
   · rw [cmpZ_lt hlt]
     rw [show lt01 a b = 1 from if_pos hlt] at HS
     go_enter Tryz.func104, Tryz.ntmps104
     go_wp2_with (first | (refine ld24 rfl (.tmp 2) rfl w.heap.size rfl la B1.out LA.out ?_) | (refine ld24 rfl (.tmp 3) rfl (w.heap.size + 1) rfl lb B2.out LB.out ?_))
     refine (HS.out _).mono ?_
     rintro e w1 ⟨rfl, hb1⟩
     have hbel2 := below_setRow' ((hbel.trans (hb1.mono hbel.size)).alloc (Nat.le_trans hbel.size hb1.size) (.cells (natsV .u64 (zeros 4)).toArray 26)) (show w.heap.size ≤ w1.heap.size from Nat.le_trans hbel.size hb1.size |> Nat.le_trans (by simp)) (natsV .u64 ls).toArray
     have Z := Hd (Blk.new w1 26 (natsV .u64 (zeros 4)))
     clear q
     go_wp2_with (refine st24 rfl (.tmp 5) (.tmp 14) rfl w1.heap.size rfl ls rfl LS.out (zeros 4) Z.out rfl ?_)
     go_ret
     exact ⟨rfl, hbel2⟩
   · rw [cmpZ_gt (show b < a by omega)]
     rw [show lt01 a b = 0 from if_neg hlt] at HS
     go_enter Tryz.func104, Tryz.ntmps104
     go_wp2_with (first | (refine ld24 rfl (.tmp 2) rfl w.heap.size rfl la B1.out LA.out ?_) | (refine ld24 rfl (.tmp 3) rfl (w.heap.size + 1) rfl lb B2.out LB.out ?_))
     refine (HS.out _).mono ?_
     rintro e w1 ⟨rfl, hb1⟩
     have hbel2 := below_setRow' ((hbel.trans (hb1.mono hbel.size)).alloc (Nat.le_trans hbel.size hb1.size) (.cells (natsV .u64 (zeros 4)).toArray 26)) (show w.heap.size ≤ w1.heap.size from Nat.le_trans hbel.size hb1.size |> Nat.le_trans (by simp)) (natsV .u64 ls).toArray
     have Z := Hd (Blk.new w1 26 (natsV .u64 (zeros 4)))
     clear q
     go_wp2_with (refine st24 rfl (.tmp 5) (.tmp 14) rfl w1.heap.size rfl ls rfl LS.out (zeros 4) Z.out rfl ?_)
     go_ret
     exact ⟨rfl, hbel2⟩
theorem cmp_words {B a b s : Nat} (hB : 0 < B) (h : a / B ^ (s + 1) = b / B ^ (s + 1)) :
   (dgt B a s < dgt B b s → a < b) ∧ (dgt B b s < dgt B a s → b < a) ∧ (dgt B a s = dgt B b s → a / B ^ s = b / B ^ s) := by
 have hM := Nat.pow_pos (n := s) hB
 have e1 : ∀ v, v / B ^ (s + 1) = v / B ^ s / B := fun v => by rw [Nat.pow_succ, Nat.div_div_eq_div_mul]
 have key : ∀ u v, u / B ^ s / B = v / B ^ s / B → dgt B u s < dgt B v s → u < v := by
   intro u v he hd
   have h1 : u / B ^ s < v / B ^ s := by
     have h2 := Nat.mod_add_div (u / B ^ s) B
     have h3 := Nat.mod_add_div (v / B ^ s) B
     unfold dgt at hd
     rw [he] at h2
     omega
   have h4 := Nat.mod_add_div u (B ^ s)
   have h5 := Nat.mod_add_div v (B ^ s)
   have h6 := Nat.mod_lt u hM
   have h7 := Nat.mul_le_mul_left (B ^ s) (show u / B ^ s + 1 ≤ v / B ^ s from h1)
   rw [Nat.mul_add, Nat.mul_one] at h7
   have h8 := Nat.mod_lt v hM
   generalize B ^ s * (u / B ^ s) = P at *
   generalize B ^ s * (v / B ^ s) = Q at *
   generalize u % B ^ s = r at *
   generalize v % B ^ s = r2 at *
   generalize B ^ s = M at *
   clear he hd h1 e1 h
   omega
 rw [e1, e1] at h
 refine ⟨key a b h, key b a h.symm, fun hd => ?_⟩
 have h2 := Nat.mod_add_div (a / B ^ s) B
 have h3 := Nat.mod_add_div (b / B ^ s) B
 unfold dgt at hd
 rw [← h2, ← h3, hd, h]
def IsPrime (p : Nat) : Prop := 2 ≤ p ∧ ∀ d, d ∣ p → d = 1 ∨ d = p
theorem IsPrime.coprime {p a : Nat} (hp : IsPrime p) (h : ¬ p ∣ a) : Nat.Coprime p a := by
 rcases hp.2 (Nat.gcd p a) (Nat.gcd_dvd_left p a) with h1 | h1
 · exact h1
 · exact absurd (h1 ▸ Nat.gcd_dvd_right p a) h
theorem IsPrime.dvd_mul {p a b : Nat} (hp : IsPrime p) (h : p ∣ a * b) : p ∣ a ∨ p ∣ b := by
 by_cases ha : p ∣ a
 · exact Or.inl ha
 · exact Or.inr ((hp.coprime ha).dvd_of_dvd_mul_left h)
theorem IsPrime.not_dvd_one {p : Nat} (hp : IsPrime p) : ¬ p ∣ 1 := fun h => by
 have := Nat.le_of_dvd (by omega) h
 have := hp.1
 omega
def prodL : List Nat → Nat | [] => 1 | x :: l => x * prodL l
theorem prodL_perm {l m : List Nat} (h : l.Perm m) : prodL l = prodL m := by
 induction h with
 | nil => rfl
 | cons x _ ih => simp only [prodL, ih]
 | swap x y l => simp only [prodL]; rw [← Nat.mul_assoc, Nat.mul_comm y x, Nat.mul_assoc]
 | trans _ _ a b => rw [a, b]
theorem perm_of_nodup {l m : List Nat} (hl : l.Nodup) (hs : ∀ x ∈ l, x ∈ m) (hn : m.length ≤ l.length) : l.Perm m := by
 induction l generalizing m with
 | nil =>
   have : m = [] := List.length_eq_zero_iff.1 (by simpa using hn)
   subst this; exact .nil
 | cons x l ih =>
   have hx : x ∈ m := hs x (by simp)
   have hp := List.perm_cons_erase hx
   refine .trans (.cons x (ih (List.nodup_cons.1 hl).2 (fun y hy => ?_) ?_)) hp.symm
   · have hne : y ≠ x := fun h => (List.nodup_cons.1 hl).1 (h ▸ hy)
     exact (List.mem_erase_of_ne hne).2 (hs y (by simp [hy]))
   · have := List.length_erase_of_mem hx
     have h0 : 0 < m.length := List.length_pos_of_mem hx
     simp only [List.length_cons] at hn
     omega
theorem prodL_map (a p : Nat) (l : List Nat) : prodL (l.map (fun x => a * x % p)) % p = a ^ l.length * prodL l % p := by
 induction l with
 | nil => simp [prodL]
 | cons x l ih =>
   simp only [List.map_cons, prodL, List.length_cons]
   rw [Nat.mul_mod, ih, Nat.mod_mod, ← Nat.mul_mod, Nat.pow_succ]
   congr 1
   simp only [Nat.mul_assoc, Nat.mul_comm, Nat.mul_left_comm]
theorem IsPrime.not_dvd_prodL {p : Nat} (hp : IsPrime p) {l : List Nat} (h : ∀ x ∈ l, ¬ p ∣ x) : ¬ p ∣ prodL l := by
 induction l with
 | nil => exact hp.not_dvd_one
 | cons x l ih =>
   intro hd
   rcases hp.dvd_mul hd with h1 | h1
   · exact h x (by simp) h1
   · exact ih (fun y hy => h y (by simp [hy])) h1
theorem mod_eq_of_dvd_sub {p x y : Nat} (hxy : y ≤ x) (h : p ∣ x - y) : x % p = y % p := by
 obtain ⟨k, hk⟩ := h
 have : x = y + p * k := by omega
 rw [this, Nat.add_mul_mod_self_left]
theorem dvd_sub_of_mod_eq {p x y : Nat} (hxy : y ≤ x) (h : x % p = y % p) : p ∣ x - y := by
 have := Nat.sub_mod_eq_zero_of_mod_eq h
 exact Nat.dvd_of_mod_eq_zero this
theorem IsPrime.cancel {p x y z : Nat} (hp : IsPrime p) (hz : ¬ p ∣ z) (h : x * z % p = y * z % p) : x % p = y % p := by
 rcases Nat.le_total y x with hxy | hxy
 · have h1 := dvd_sub_of_mod_eq (Nat.mul_le_mul_right z hxy) h
   rw [← Nat.sub_mul] at h1
   rcases hp.dvd_mul h1 with h2 | h2
   · exact mod_eq_of_dvd_sub hxy h2
   · exact absurd h2 hz
 · have h1 := dvd_sub_of_mod_eq (Nat.mul_le_mul_right z hxy) h.symm
   rw [← Nat.sub_mul] at h1
   rcases hp.dvd_mul h1 with h2 | h2
   · exact (mod_eq_of_dvd_sub hxy h2).symm
   · exact absurd h2 hz
theorem fermat {p a : Nat} (hp : IsPrime p) (ha : ¬ p ∣ a) : a ^ (p - 1) % p = 1 := by
 have h2 := hp.1
 let l := List.range' 1 (p - 1)
 have hmem : ∀ x, x ∈ l ↔ 1 ≤ x ∧ x < p := by
   intro x; simp only [l, List.mem_range'_1]; omega
 have hnd : ∀ x ∈ l, ¬ p ∣ x := by
   intro x hx hd
   have := (hmem x).1 hx
   have := Nat.le_of_dvd (by omega) hd
   omega
 have hperm : (l.map (fun x => a * x % p)).Perm l := by
   refine perm_of_nodup ?_ ?_ (by simp)
   · refine List.Pairwise.map _ (R := fun x y => ¬ (x % p = y % p)) ?_ ?_
     · intro x y hne heq
       apply hne
       refine hp.cancel ha ?_
       rw [Nat.mul_comm x, Nat.mul_comm y]; exact heq
     · have hn : l.Nodup := List.nodup_range'
       refine List.Pairwise.imp_of_mem ?_ hn
       intro x y hx hy hne he
       have hx' := (hmem x).1 hx
       have hy' := (hmem y).1 hy
       rw [Nat.mod_eq_of_lt hx'.2, Nat.mod_eq_of_lt hy'.2] at he
       exact hne he
   · intro x hx
     obtain ⟨y, hy, rfl⟩ := List.mem_map.1 hx
     refine (hmem _).2 ⟨?_, Nat.mod_lt _ (by omega)⟩
     rcases Nat.eq_zero_or_pos (a * y % p) with h0 | h0
     · exfalso
       rcases hp.dvd_mul (Nat.dvd_of_mod_eq_zero h0) with h1 | h1
       · exact ha h1
       · exact hnd y hy h1
     · exact h0
 have hprod := prodL_map a p l
 rw [prodL_perm hperm] at hprod
 have hlen : l.length = p - 1 := by simp [l]
 rw [hlen] at hprod
 have := hp.cancel (x := a ^ (p - 1)) (y := 1) (hp.not_dvd_prodL hnd) (by rw [Nat.one_mul]; exact hprod.symm)
 rw [this, Nat.mod_eq_of_lt (by omega)]
theorem prime_factor (n : Nat) : 2 ≤ n → IsPrime n ∨ ∃ s, IsPrime s ∧ s ∣ n ∧ s * s ≤ n := by
 induction n using Nat.strongRecOn with
 | ind n ih =>
   intro hn
   by_cases hp : IsPrime n
   · exact Or.inl hp
   right
   have : ∃ d, d ∣ n ∧ d ≠ 1 ∧ d ≠ n := by
     refine Classical.byContradiction fun hc => hp ⟨hn, fun d hd => ?_⟩
     refine Classical.byContradiction fun h2 => hc ⟨d, hd, ?_, ?_⟩
     · exact fun h => h2 (Or.inl h)
     · exact fun h => h2 (Or.inr h)
   obtain ⟨d, ⟨e, hde⟩, h1, h2⟩ := this
   have small : ∀ x y : Nat, n = x * y → x ≤ y → x ≠ 1 → ∃ s, IsPrime s ∧ s ∣ n ∧ s * s ≤ n := by
     intro x y hxy hle hx1
     have hx0 : x ≠ 0 := by intro h; subst h; simp at hxy; omega
     have hxx : x * x ≤ n := by rw [hxy]; exact Nat.mul_le_mul_left x hle
     have hxn : x < n := by
       have : x * 2 ≤ x * x := Nat.mul_le_mul_left x (by omega)
       omega
     rcases ih x hxn (by omega) with hpx | ⟨s, hs, hsx, hss⟩
     · exact ⟨x, hpx, ⟨y, hxy⟩, hxx⟩
     · refine ⟨s, hs, Nat.dvd_trans hsx ⟨y, hxy⟩, ?_⟩
       omega
   rcases Nat.le_total d e with hle | hle
   · exact small d e hde hle h1
   · refine small e d (by rw [hde, Nat.mul_comm]) hle ?_
     intro he; apply h2; rw [hde, he, Nat.mul_one]
def powm (n : Nat) : Nat → Nat → Nat → Nat
 | 0, _, _ => 1 % n
 | k + 1, a, e => if e % 2 = 1 then a * powm n k (a * a % n) (e / 2) % n else powm n k (a * a % n) (e / 2)
theorem powm_eq (n k : Nat) : ∀ a e, e < 2 ^ k → powm n k a e = a ^ e % n := by
 induction k with
 | zero => intro a e h; have : e = 0 := by simpa using h
           subst this; simp [powm]
 | succ k ih =>
   intro a e h
   have h2 : e / 2 < 2 ^ k := by rw [Nat.pow_succ] at h; omega
   have hsq : (a * a % n) ^ (e / 2) % n = a ^ (2 * (e / 2)) % n := by
     rw [← Nat.pow_mod, Nat.pow_mul, Nat.pow_two]
   simp only [powm]
   rw [ih _ _ h2, hsq]
   split
   · rename_i h1
     rw [Nat.mul_mod, Nat.mod_mod, ← Nat.mul_mod]
     have : e = 2 * (e / 2) + 1 := by omega
     conv => rhs; rw [this, Nat.pow_succ, Nat.mul_comm]
   · have : e = 2 * (e / 2) := by omega
     conv => rhs; rw [this]
theorem pock {n q r a : Nat} (hn : 2 ≤ n) (hq : IsPrime q) (hm : n - 1 = q * r) (h1 : a ^ (n - 1) % n = 1)
   (h2 : Nat.gcd (a ^ r % n + (n - 1)) n = 1) (s : Nat) (hs : IsPrime s) (hsn : s ∣ n) : q ∣ s - 1 := by
 have hs2 := hs.1
 by_cases hd : q ∣ s - 1
 · exact hd
 exfalso
 have hone : a ^ (n - 1) % s = 1 := by
   have := Nat.mod_mod_of_dvd (a ^ (n - 1)) hsn
   rw [h1] at this; rw [← this]; exact Nat.mod_eq_of_lt (by omega)
 have hsa : ¬ s ∣ a := by
   intro h
   have h3 : s ∣ a ^ (n - 1) := by
     have : n - 1 = (n - 2) + 1 := by omega
     rw [this, Nat.pow_succ]; exact Nat.dvd_trans h (Nat.dvd_mul_left _ _)
   rw [Nat.mod_eq_zero_of_dvd h3] at hone
   omega
 have hsb : ¬ s ∣ a ^ r := by
   intro h
   have : s ∣ (a ^ r) ^ q := by
     have : q = (q - 1) + 1 := by have := hq.1; omega
     rw [this, Nat.pow_succ]; exact Nat.dvd_trans h (Nat.dvd_mul_left _ _)
   rw [← Nat.pow_mul, Nat.mul_comm, ← hm] at this
   rw [Nat.mod_eq_zero_of_dvd this] at hone
   omega
 have hbq : (a ^ r) ^ q % s = 1 := by rw [← Nat.pow_mul, Nat.mul_comm, ← hm]; exact hone
 have hbs : (a ^ r) ^ (s - 1) % s = 1 := fermat hs hsb
 generalize a ^ r = b at *
 -- the powers of b that are 1 are closed under gcd
 have hg : ∀ x y : Nat, b ^ x % s = 1 → b ^ y % s = 1 → b ^ (Nat.gcd x y) % s = 1 := by
   intro x y
   induction x, y using Nat.gcd.induction with
   | H0 y => intro _ h; simpa using h
   | H1 x y hx ih =>
     intro h h'
     rw [Nat.gcd_rec]
     refine ih ?_ h
     have e : y = x * (y / x) + y % x := (Nat.div_add_mod y x).symm
     have hz : ¬ s ∣ b ^ (x * (y / x)) := by
       rw [Nat.pow_mul]
       intro hd
       have := Nat.mod_eq_zero_of_dvd hd
       rw [Nat.pow_mod, h, Nat.one_pow, Nat.mod_eq_of_lt (by omega)] at this
       omega
     have := hs.cancel (x := b ^ (y % x)) (y := 1) hz (by
       rw [Nat.one_mul, Nat.mul_comm, ← Nat.pow_add, ← e, h', Nat.pow_mul, Nat.pow_mod, h, Nat.one_pow, Nat.mod_eq_of_lt (by omega)])
     rw [this, Nat.mod_eq_of_lt (by omega)]
 have := hg q (s - 1) hbq hbs
 rw [show Nat.gcd q (s - 1) = 1 from hq.coprime hd, Nat.pow_one] at this
 -- then s divides both
 have hbig : s ∣ b % n + (n - 1) := by
   have e1 : b % n % s = 1 := by rw [Nat.mod_mod_of_dvd _ hsn]; exact this
   obtain ⟨k, hk⟩ := hsn
   have e2 : b % n = s * (b % n / s) + 1 := by have := Nat.div_add_mod (b % n) s; omega
   refine ⟨b % n / s + k, ?_⟩
   rw [Nat.mul_add, ← hk]; omega
 have h3 := Nat.dvd_gcd hbig hsn
 rw [h2] at h3
 exact hs.not_dvd_one h3
theorem prime_of_pock1 {n q r a : Nat} (hn : 2 ≤ n) (hq : IsPrime q) (hm : n - 1 = q * r) (h1 : a ^ (n - 1) % n = 1)
   (h2 : Nat.gcd (a ^ r % n + (n - 1)) n = 1) (hb : n < (q + 1) * (q + 1)) : IsPrime n := by
 rcases prime_factor n hn with h | ⟨s, hs, hsn, hss⟩
 · exact h
 · exfalso
   have hd := pock hn hq hm h1 h2 s hs hsn
   have hs2 := hs.1
   have := Nat.le_of_dvd (by omega) hd
   have := Nat.mul_le_mul (show q + 1 ≤ s by omega) (show q + 1 ≤ s by omega)
   omega
theorem prime_of_pock2 {n q1 q2 r1 r2 a : Nat} (hn : 2 ≤ n) (hq1 : IsPrime q1) (hq2 : IsPrime q2) (hne : q1 ≠ q2) (hm1 : n - 1 = q1 * r1) (hm2 : n - 1 = q2 * r2)
   (h1 : a ^ (n - 1) % n = 1) (h2 : Nat.gcd (a ^ r1 % n + (n - 1)) n = 1) (h3 : Nat.gcd (a ^ r2 % n + (n - 1)) n = 1) (hb : n < (q1 * q2 + 1) * (q1 * q2 + 1)) : IsPrime n := by
 rcases prime_factor n hn with h | ⟨s, hs, hsn, hss⟩
 · exact h
 · exfalso
   have hd1 := pock hn hq1 hm1 h1 h2 s hs hsn
   have hd2 := pock hn hq2 hm2 h1 h3 s hs hsn
   have hc : Nat.Coprime q1 q2 := hq1.coprime (fun h => by
     rcases hq2.2 q1 h with h | h
     · have := hq1.1; omega
     · exact hne h)
   have hd := Nat.Coprime.mul_dvd_of_dvd_of_dvd hc hd1 hd2
   have hs2 := hs.1
   have := Nat.le_of_dvd (by omega) hd
   have := Nat.mul_le_mul (show q1 * q2 + 1 ≤ s by omega) (show q1 * q2 + 1 ≤ s by omega)
   omega
def trial (p : Nat) : Nat → Bool | 0 => true | k + 1 => p % (k + 2) != 0 && trial p k
theorem trial_spec (p k : Nat) : trial p k = true → ∀ d, 2 ≤ d → d < k + 2 → ¬ d ∣ p := by
 induction k with
 | zero => intro _ d h1 h2; omega
 | succ k ih =>
   intro h d h1 h2 hd
   simp only [trial, Bool.and_eq_true, bne_iff_ne, ne_eq] at h
   rcases Nat.lt_or_ge d (k + 2) with h3 | h3
   · exact ih h.2 d h1 h3 hd
   · have : d = k + 2 := by omega
     subst this
     exact h.1 (Nat.mod_eq_zero_of_dvd hd)
theorem prime_of_trial {p : Nat} (k : Nat) (h : (trial p k && decide (2 ≤ p) && decide (p < (k + 2) * (k + 2))) = true) : IsPrime p := by
 simp only [Bool.and_eq_true, decide_eq_true_eq] at h
 rcases prime_factor p h.1.2 with hp | ⟨s, hs, hsn, hss⟩
 · exact hp
 · exfalso
   refine trial_spec p k h.1.1 s hs.1 ?_ hsn
   rcases Nat.lt_or_ge s (k + 2) with h3 | h3
   · exact h3
   · have := Nat.mul_le_mul h3 h3; omega
def pockB (n q r a k : Nat) : Bool := decide (2 ≤ n) && decide (n - 1 = q * r) && decide (n < 2 ^ k) && decide (powm n k a (n - 1) = 1) && decide (Nat.gcd (powm n k a r + (n - 1)) n = 1)
theorem pockB_spec {n q r a k : Nat} (h : pockB n q r a k = true) (hq : IsPrime q) : 2 ≤ n ∧ n - 1 = q * r ∧ a ^ (n - 1) % n = 1 ∧ Nat.gcd (a ^ r % n + (n - 1)) n = 1 := by
 simp only [pockB, Bool.and_eq_true, decide_eq_true_eq] at h
 obtain ⟨⟨⟨⟨h1, h2⟩, h3⟩, h4⟩, h5⟩ := h
 have hr : r ≤ n - 1 := by rw [h2]; have := Nat.mul_le_mul_right r (show 1 ≤ q by have := hq.1; omega); omega
 refine ⟨h1, h2, ?_, ?_⟩
 · rw [← powm_eq n k a (n - 1) (by omega)]; exact h4
 · rw [← powm_eq n k a r (by omega)]; exact h5
theorem prime_by1 {n : Nat} (q r a k : Nat) (hq : IsPrime q) (h : (pockB n q r a k && decide (n < (q + 1) * (q + 1))) = true) : IsPrime n := by
 simp only [Bool.and_eq_true, decide_eq_true_eq] at h
 obtain ⟨h1, h2, h3, h4⟩ := pockB_spec h.1 hq
 exact prime_of_pock1 h1 hq h2 h3 h4 h.2
theorem prime_by2 {n : Nat} (q1 r1 q2 r2 a k : Nat) (hq1 : IsPrime q1) (hq2 : IsPrime q2) (h : (pockB n q1 r1 a k && pockB n q2 r2 a k && decide (q1 ≠ q2) && decide (n < (q1 * q2 + 1) * (q1 * q2 + 1))) = true) : IsPrime n := by
 simp only [Bool.and_eq_true, decide_eq_true_eq] at h
 obtain ⟨⟨⟨h0, h1⟩, h2⟩, h3⟩ := h
 obtain ⟨a1, a2, a3, a4⟩ := pockB_spec h0 hq1
 obtain ⟨b1, b2, b3, b4⟩ := pockB_spec h1 hq2
 exact prime_of_pock2 a1 hq1 hq2 h2 a2 b2 a3 a4 b4 h3
set_option maxRecDepth 100000
set_option exponentiation.threshold 100000
def mP : Nat := 115792089210356248762697446949407573530086143415290314195533631308867097853951
def mN : Nat := 115792089210356248762697446949407573529996955224135760342422259061068512044369
theorem prime_704251 : IsPrime 704251 := prime_of_trial 839 (by decide +kernel)
theorem prime_78283 : IsPrime 78283 := prime_of_trial 279 (by decide +kernel)
theorem prime_46076956964474543 : IsPrime 46076956964474543 := prime_by2 704251 65426896042 78283 588594675274 2 56 prime_704251 prime_78283 (by decide +kernel)
theorem prime_3677 : IsPrime 3677 := prime_of_trial 60 (by decide +kernel)
theorem prime_197 : IsPrime 197 := prime_of_trial 14 (by decide +kernel)
theorem prime_66417393611 : IsPrime 66417393611 := prime_by2 3677 18062930 197 337144130 2 36 prime_3677 prime_197 (by decide +kernel)
theorem prime_11290956913871 : IsPrime 11290956913871 := prime_by1 66417393611 170 2 44 prime_66417393611 (by decide +kernel)
theorem prime_774023187263532362759620327192479577272145303 : IsPrime 774023187263532362759620327192479577272145303 := prime_by2 46076956964474543 16798487535978261528513091914 11290956913871 68552487904071337216976429044362 2 150 prime_46076956964474543 prime_11290956913871 (by decide +kernel)
theorem prime_835945042244614951780389953367877943453916927241 : IsPrime 835945042244614951780389953367877943453916927241 := prime_by1 774023187263532362759620327192479577272145303 1080 2 160 prime_774023187263532362759620327192479577272145303 (by decide +kernel)
theorem prime_115792089210356248762697446949407573530086143415290314195533631308867097853951 : IsPrime 115792089210356248762697446949407573530086143415290314195533631308867097853951 := prime_by1 835945042244614951780389953367877943453916927241 138516389665330497628477975950 2 256 prime_835945042244614951780389953367877943453916927241 (by decide +kernel)
theorem prime_191039911 : IsPrime 191039911 := prime_of_trial 13821 (by decide +kernel)
theorem prime_3023 : IsPrime 3023 := prime_of_trial 54 (by decide +kernel)
theorem prime_208150935158385979 : IsPrime 208150935158385979 := prime_by2 191039911 1089567798 3023 68855750962086 2 58 prime_191039911 prime_3023 (by decide +kernel)
theorem prime_2624747550333869278416773953 : IsPrime 2624747550333869278416773953 := prime_by1 208150935158385979 12609828288 2 92 prime_208150935158385979 (by decide +kernel)
theorem prime_3969899 : IsPrime 3969899 := prime_of_trial 1992 (by decide +kernel)
theorem prime_1002328039319 : IsPrime 1002328039319 := prime_by1 3969899 252482 2 40 prime_3969899 (by decide +kernel)
theorem prime_115792089210356248762697446949407573529996955224135760342422259061068512044369 : IsPrime 115792089210356248762697446949407573529996955224135760342422259061068512044369 := prime_by2 2624747550333869278416773953 44115514726598157485257412756682202504057278751056 1002328039319 115523146782392231311324540489179156958562150085032625197564538672 2 256 prime_2624747550333869278416773953 prime_1002328039319 (by decide +kernel)
theorem prime_mP : IsPrime mP := prime_115792089210356248762697446949407573530086143415290314195533631308867097853951
theorem prime_mN : IsPrime mN := prime_115792089210356248762697446949407573529996955224135760342422259061068512044369
end Go.Proofs.YtdkkombpkojjaaaGreat
