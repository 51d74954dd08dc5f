/- Parts of proofs of statements, each text behind those that it stands on. No condition of its own. -/
import Derived.Test.YtdkkombpkojjaaaGreatC31
namespace Go.Proofs.YtdkkombpkojjaaaGreat
set_option maxRecDepth 100000
set_option maxHeartbeats 1600000
open Go.RowKit
set_option linter.unusedVariables false
set_option linter.unusedSimpArgs false
theorem product_any5 (a b c : Nat) (w : World) (ha : a < 2 ^ 256) (hb : b < 2 ^ 256) (hc : c < 2 ^ 256) :
   Calls Tryz.prog 71 #[.agg (natsV .u64 (wds 4 a)).toArray, .agg (natsV .u64 (wds 4 b)).toArray, .agg (natsV .u64 (wds 4 c)).toArray] w fun e w' => e = .returned (.agg (natsV .u64 (hds 16 (a * b + c))).toArray) ∧ Below w.heap.size w w' := by
 have HA := Hd (fun w => digits_any5 a w)
 have HB := Hd (fun w => digits_any5 b w)
 have HC := Hd (fun w => digits_any5 c w)
 have LA := Hd (wds_len 4 a)
 have LB := Hd (wds_len 4 b)
 have LC := Hd (wds_len 4 c)
 have MA := Hd (hds_len 8 a)
 have MB := Hd (hds_len 8 b)
 have MC := Hd (hds_len 8 c)
 have AA := Hd (hds_at 8 a)
 have AB := Hd (hds_at 8 b)
 have AC := Hd (hds_at 8 c)
 have LR := Hd (hds_len 16 (a * b + c))
 have HDN := Hd (fun (l : List Nat) (h : PrAt a b c 8 l) => h.done ha)
 have HST := Hd (PrAt.start a b c hc)
 have HCR := Hd (fun (i cy : Nat) (l : List Nat) (h : RowAt b (dgt (2 ^ 32) a i) i (c + (a % (2 ^ 32) ^ i) * b) 8 cy l) => RowAt.carry hb h)
 have HPR := Hd (fun (i k cy : Nat) (l : List Nat) (h : CarAt (c + (a % (2 ^ 32) ^ (i + 1)) * b) k cy l) (hk : k = 16 ∨ cy = 0) => CarAt.pr ha hb hc h hk)
 obtain ⟨lr, hlr⟩ : ∃ l, l = hds 16 (a * b + c) := ⟨_, rfl⟩
 rw [← hlr] at LR HDN ⊢
 clear hlr
 generalize wds 4 a = la at *
 generalize wds 4 b = lb at *
 generalize wds 4 c = lc at *
 generalize hds 8 a = da at *
 generalize hds 8 b = db at *
 generalize hds 8 c = dc at *
 have B1 := Hd ((((Blk.new w 26 (natsV .u64 la)).alloc (.cells (natsV .u64 lb).toArray 26)).alloc (.cells (natsV .u64 lc).toArray 26)).alloc (.cells (natsV .u64 (zeros 16)).toArray 93))
 have B2 := Hd (((Blk.new2 w (.cells (natsV .u64 la).toArray 26) 26 (natsV .u64 lb)).alloc (.cells (natsV .u64 lc).toArray 26)).alloc (.cells (natsV .u64 (zeros 16)).toArray 93))
 have B3 := Hd ((Blk.new3 w (.cells (natsV .u64 la).toArray 26) (.cells (natsV .u64 lb).toArray 26) 26 (natsV .u64 lc)).alloc (.cells (natsV .u64 (zeros 16)).toArray 93))
 have B4 := Hd (Blk.new4 w (.cells (natsV .u64 la).toArray 26) (.cells (natsV .u64 lb).toArray 26) (.cells (natsV .u64 lc).toArray 26) 93 (natsV .u64 (zeros 16)))
 clear ha hb hc
 have BEL := Hd (((((Below.refl w.heap.size w).alloc (Nat.le_refl _) (.cells (natsV .u64 la).toArray 26)).alloc (by simp) (.cells (natsV .u64 lb).toArray 26)).alloc (by simp; omega) (.cells (natsV .u64 lc).toArray 26)).alloc (by simp; omega) (.cells (natsV .u64 (zeros 16)).toArray 93))
 go_enter Tryz.func71, Tryz.ntmps71
 go_wp2_with (first | (refine ld24 rfl (.tmp 3) rfl w.heap.size rfl la B1.out LA.out ?_))
 refine (HA.out _).mono ?_
 rintro e w1 ⟨rfl, hbw1⟩
 have C2 := Hd (B1.out.below' hbw1)
 have C3 := Hd (B2.out.below' hbw1)
 have C4 := Hd (B3.out.below' hbw1)
 have C5 := Hd (B4.out.below' hbw1)
 have hbel6 := BEL.out.trans (hbw1.mono BEL.out.size)
 have Z8 := Hd (Blk.new w1 122 (natsV .u64 (zeros 8)))
 have hz9 := Hd (below_setRow' (hbel6.alloc hbel6.size (.cells (natsV .u64 (zeros 8)).toArray 122)) hbel6.size (natsV .u64 da).toArray)
 have Y10 := Hd ((C3.out.alloc (.cells (natsV .u64 (zeros 8)).toArray 122)).row (natsV .u64 da).toArray (Nat.ne_of_lt C3.out.lt))
 have Y11 := Hd ((C4.out.alloc (.cells (natsV .u64 (zeros 8)).toArray 122)).row (natsV .u64 da).toArray (Nat.ne_of_lt C4.out.lt))
 have Y12 := Hd ((C5.out.alloc (.cells (natsV .u64 (zeros 8)).toArray 122)).row (natsV .u64 da).toArray (Nat.ne_of_lt C5.out.lt))
 have Y13 := Hd (Z8.out.setRow (natsV .u64 da))
 clear B1 B2 B3 B4 hbw1 C2
 go_wp2_with (first | (refine st26 rfl (.tmp 7) (.tmp 19) rfl w1.heap.size rfl da rfl MA.out (zeros 8) Z8.out rfl ?_; generalize hW : World.setRow _ _ _ = w7; have D15 := Hd (show Blk w7 (w.heap.size + 1) 26 (natsV .u64 lb) from (by rw [← hW]; exact Y10.out)); have D16 := Hd (show Blk w7 (w.heap.size + 1 + 1) 26 (natsV .u64 lc) from (by rw [← hW]; exact Y11.out)); have D17 := Hd (show Blk w7 (w.heap.size + 1 + 1 + 1) 93 (natsV .u64 (zeros 16)) from (by rw [← hW]; exact Y12.out)); have D18 := Hd (show Blk w7 w1.heap.size 122 (natsV .u64 da) from (by rw [← hW]; exact Y13.out)); have LE_D18 := (hbel6).size; have NE_D17 := Nat.ne_of_lt C5.out.lt; have hbel19 : Below w.heap.size w w7 := (by rw [← hW]; exact hz9.out); clear hW Z8 hz9 C3 C4 C5 Y10 Y11 Y12 Y13 hbel6; generalize w1.heap.size = G14 at *) | (refine ld24 rfl (.tmp 4) rfl (w.heap.size + 1) rfl lb D15.out LB.out ?_))
 refine (HB.out _).mono ?_
 rintro e w20 ⟨rfl, hbw20⟩
 have C21 := Hd (D15.out.below' hbw20)
 have C22 := Hd (D16.out.below' hbw20)
 have C23 := Hd (D17.out.below' hbw20)
 have C24 := Hd (D18.out.below' hbw20)
 have hbel25 := hbel19.trans (hbw20.mono hbel19.size)
 have Z27 := Hd (Blk.new w20 122 (natsV .u64 (zeros 8)))
 have hz28 := Hd (below_setRow' (hbel25.alloc hbel25.size (.cells (natsV .u64 (zeros 8)).toArray 122)) hbel25.size (natsV .u64 db).toArray)
 have Y29 := Hd ((C22.out.alloc (.cells (natsV .u64 (zeros 8)).toArray 122)).row (natsV .u64 db).toArray (Nat.ne_of_lt C22.out.lt))
 have Y30 := Hd ((C23.out.alloc (.cells (natsV .u64 (zeros 8)).toArray 122)).row (natsV .u64 db).toArray (Nat.ne_of_lt C23.out.lt))
 have Y31 := Hd ((C24.out.alloc (.cells (natsV .u64 (zeros 8)).toArray 122)).row (natsV .u64 db).toArray (Nat.ne_of_lt C24.out.lt))
 have Y32 := Hd (Z27.out.setRow (natsV .u64 db))
 clear D15 D16 D17 D18 hbw20 hbel19 C21
 go_wp2_with (first | (refine st26 rfl (.tmp 8) (.tmp 21) rfl w20.heap.size rfl db rfl MB.out (zeros 8) Z27.out rfl ?_; generalize hW : World.setRow _ _ _ = w26; have D34 := Hd (show Blk w26 (w.heap.size + 1 + 1) 26 (natsV .u64 lc) from (by rw [← hW]; exact Y29.out)); have D35 := Hd (show Blk w26 (w.heap.size + 1 + 1 + 1) 93 (natsV .u64 (zeros 16)) from (by rw [← hW]; exact Y30.out)); have D36 := Hd (show Blk w26 G14 122 (natsV .u64 da) from (by rw [← hW]; exact Y31.out)); have D37 := Hd (show Blk w26 w20.heap.size 122 (natsV .u64 db) from (by rw [← hW]; exact Y32.out)); have LE_D37 := (hbel25).size; have NE_D36 := Nat.ne_of_lt C24.out.lt; have hbel38 : Below w.heap.size w w26 := (by rw [← hW]; exact hz28.out); clear hW Z27 hz28 C22 C23 C24 Y29 Y30 Y31 Y32 hbel25; generalize w20.heap.size = G33 at *) | (refine ld24 rfl (.tmp 5) rfl (w.heap.size + 1 + 1) rfl lc D34.out LC.out ?_))
 refine (HC.out _).mono ?_
 rintro e w39 ⟨rfl, hbw39⟩
 have C40 := Hd (D34.out.below' hbw39)
 have C41 := Hd (D35.out.below' hbw39)
 have C42 := Hd (D36.out.below' hbw39)
 have C43 := Hd (D37.out.below' hbw39)
 have hbel44 := hbel38.trans (hbw39.mono hbel38.size)
 have Z46 := Hd (Blk.new w39 122 (natsV .u64 (zeros 8)))
 have hz47 := Hd (below_setRow' (hbel44.alloc hbel44.size (.cells (natsV .u64 (zeros 8)).toArray 122)) hbel44.size (natsV .u64 dc).toArray)
 have Y48 := Hd ((C41.out.alloc (.cells (natsV .u64 (zeros 8)).toArray 122)).row (natsV .u64 dc).toArray (Nat.ne_of_lt C41.out.lt))
 have Y49 := Hd ((C42.out.alloc (.cells (natsV .u64 (zeros 8)).toArray 122)).row (natsV .u64 dc).toArray (Nat.ne_of_lt C42.out.lt))
 have Y50 := Hd ((C43.out.alloc (.cells (natsV .u64 (zeros 8)).toArray 122)).row (natsV .u64 dc).toArray (Nat.ne_of_lt C43.out.lt))
 have Y51 := Hd (Z46.out.setRow (natsV .u64 dc))
 clear D34 D35 D36 D37 hbw39 hbel38 C40
 go_wp2_with (refine st26 rfl (.tmp 9) (.tmp 23) rfl w39.heap.size rfl dc rfl MC.out (zeros 8) Z46.out rfl ?_; generalize hW : World.setRow _ _ _ = w45; have D53 := Hd (show Blk w45 (w.heap.size + 1 + 1 + 1) 93 (natsV .u64 (zeros 16)) from (by rw [← hW]; exact Y48.out)); have D54 := Hd (show Blk w45 G14 122 (natsV .u64 da) from (by rw [← hW]; exact Y49.out)); have D55 := Hd (show Blk w45 G33 122 (natsV .u64 db) from (by rw [← hW]; exact Y50.out)); have D56 := Hd (show Blk w45 w39.heap.size 122 (natsV .u64 dc) from (by rw [← hW]; exact Y51.out)); have LE_D56 := (hbel44).size; have NE_D55 := Nat.ne_of_lt C43.out.lt; have hbel57 : Below w.heap.size w w45 := (by rw [← hW]; exact hz47.out); clear hW Z46 hz47 C41 C42 C43 Y48 Y49 Y50 Y51 hbel44; generalize w39.heap.size = G52 at *; have N_r := Hd (D53.out.alloc (.cells (natsV .u64 (zeros 16)).toArray 93)); have N_x := Hd (D54.out.alloc (.cells (natsV .u64 (zeros 16)).toArray 93)); have N_y := Hd (D55.out.alloc (.cells (natsV .u64 (zeros 16)).toArray 93)); have N_z := Hd (D56.out.alloc (.cells (natsV .u64 (zeros 16)).toArray 93)); have N_o := Hd (Blk.new w45 93 (natsV .u64 (zeros 16))); have belN := (hbel57).alloc (hbel57).size (.cells (natsV .u64 (zeros 16)).toArray 93); have LT_r := D53.out.lt; have LT_x := D54.out.lt; have LT_y := D55.out.lt; have LT_z := D56.out.lt; have LE_o := (hbel57).size; clear D53 D54 D55 D56 hbel57)
 generalize hGo : w45.heap.size = Go_ at *
 clear hGo
 go_loopw [11] (fun i wr => ∃ t : Nat, t ≤ 8 ∧ i = .int .i64 t ∧ Blk wr (w.heap.size + 1 + 1 + 1) 93 (natsV .u64 (zeros 16)) ∧ Blk wr G14 122 (natsV .u64 da) ∧ Blk wr G33 122 (natsV .u64 db) ∧ Blk wr G52 122 (natsV .u64 dc) ∧ Blk wr Go_ 93 (natsV .u64 (tell (dgt (2 ^ 32) c) t ++ zeros (16 - t))) ∧ Below w.heap.size w wr) (fun i _ => 8 - (intOf i).toNat)
 case atStart => exact ⟨0, by omega, rfl, N_r.out, N_x.out, N_y.out, N_z.out, by rw [show tell (dgt (2 ^ 32) c) 0 ++ zeros (16 - 0) = zeros 16 by simp [tell]]; exact N_o.out, belN⟩
 case round =>
   clear N_r N_x N_y N_z N_o belN
   obtain ⟨t, ht, rfl, k_r, k_x, k_y, k_z, k_o, hbel⟩ := hrel
   have K_r := Hd k_r
   have K_x := Hd k_x
   have K_y := Hd k_y
   have K_z := Hd k_z
   have K_o := Hd k_o
   clear k_r k_x k_y k_z k_o
   by_cases h8 : t < 8
   · as_aux_lemma =>
     have hti : (t : Int) < 8 := by omega
     have hti2 : (t : Int) < 16 := by omega
     have c0 := K_z.out.nat t (by rw [MC.out]; exact h8)
     rw [AC.out t h8] at c0
     have hset := fill_tell (dgt (2 ^ 32) c) 16 t (by omega)
     have hlen : (tell (dgt (2 ^ 32) c) t ++ zeros (16 - t)).length = 16 := by simp [tell_length, zeros]; omega
     have HSET := Hd hset
     clear hset AC HST HCR HPR HDN
     generalize dgt (2 ^ 32) c t = x at *
     generalize tell (dgt (2 ^ 32) c) t ++ zeros (16 - t) = l0 at *
     have d0 := K_o.out.nat t (by rw [hlen]; omega)
     have f0 := K_o.out.free t
     have n_o := Hd (K_o.out.natSet t x)
     have n_r := Hd (K_r.out.other ⟨Go_, t, none⟩ (.int .u64 (x : Nat)) (show (w.heap.size + 1 + 1 + 1) ≠ Go_ by omega))
     have n_x := Hd (K_x.out.other ⟨Go_, t, none⟩ (.int .u64 (x : Nat)) (show G14 ≠ Go_ by omega))
     have n_y := Hd (K_y.out.other ⟨Go_, t, none⟩ (.int .u64 (x : Nat)) (show G33 ≠ Go_ by omega))
     have n_z := Hd (K_z.out.other ⟨Go_, t, none⟩ (.int .u64 (x : Nat)) (show G52 ≠ Go_ by omega))
     have hb2 := hbel.setCell (p := ⟨Go_, t, none⟩) LE_o (.int .u64 (x : Nat))
     rw [HSET.out] at n_o
     go_wp2_with fail
     go_roundw
     case rel => exact ⟨t + 1, by omega, by go_num, n_r.out, n_x.out, n_y.out, n_z.out, n_o.out, hb2⟩
     case measure => simp [intOf] <;> omega
   · as_aux_lemma =>
     obtain rfl : t = 8 := by omega
     rw [show ((8 : Nat) : Int) = 8 from rfl]
     clear K_z AC MC LT_z
     go_wp2_with fail
     generalize hL0 : tell (dgt (2 ^ 32) c) 8 ++ zeros (16 - 8) = l0 at *
     clear hL0
     go_loopw [12] (fun i wr => ∃ t : Nat, t ≤ 8 ∧ ∃ lp, PrAt a b c t lp ∧ i = .int .i64 t ∧ Blk wr (w.heap.size + 1 + 1 + 1) 93 (natsV .u64 (zeros 16)) ∧ Blk wr G14 122 (natsV .u64 da) ∧ Blk wr G33 122 (natsV .u64 db) ∧ Blk wr Go_ 93 (natsV .u64 lp) ∧ Below w.heap.size w wr) (fun i _ => 8 - (intOf i).toNat)
     case atStart => exact ⟨0, by omega, _, HST.out, rfl, K_r.out, K_x.out, K_y.out, K_o.out, hbel⟩
     case round =>
       clear K_r K_x K_y K_o hbel HST
       obtain ⟨t, ht, lp, hm0, rfl, k_r, k_x, k_y, k_o, hbel⟩ := hrel
       have K_r := Hd k_r
       have K_x := Hd k_x
       have K_y := Hd k_y
       have K_o := Hd k_o
       have HM := Hd hm0
       clear k_r k_x k_y k_o hm0
       by_cases h8 : t < 8
       · as_aux_lemma =>
         have hti : (t : Int) < 8 := by omega
         have xt := AA.out t h8
         have hd32 := dgt_lt (B := 2 ^ 32) (by decide) a t
         have HRS := Hd (HM.out.rowStart (dgt (2 ^ 32) a t))
         have HCRt := Hd (HCR.out t)
         have HPRt := Hd (HPR.out t)
         clear HCR HPR HDN HM AA
         generalize c + (a % (2 ^ 32) ^ (t + 1)) * b = T1 at *
         generalize c + (a % (2 ^ 32) ^ t) * b = T0 at *
         obtain ⟨d, hd⟩ : ∃ d, d = dgt (2 ^ 32) a t := ⟨_, rfl⟩
         rw [← hd] at xt hd32 HRS HCRt
         clear hd
         go_wp2_with fail
         go_loopw [13, 14] (fun cc jj wr => ∃ s : Nat, s ≤ 8 ∧ ∃ lq cy, RowAt b d t T0 s cy lq ∧ jj = .int .i64 s ∧ cc = .int .u64 (cy : Nat) ∧ Blk wr (w.heap.size + 1 + 1 + 1) 93 (natsV .u64 (zeros 16)) ∧ Blk wr G14 122 (natsV .u64 da) ∧ Blk wr G33 122 (natsV .u64 db) ∧ Blk wr Go_ 93 (natsV .u64 lq) ∧ Below w.heap.size w wr) (fun _ jj _ => 8 - (intOf jj).toNat)
         case atStart => exact ⟨0, by omega, lp, 0, HRS.out, rfl, rfl, K_r.out, K_x.out, K_y.out, K_o.out, hbel⟩
         case round =>
           clear K_r K_x K_y K_o hbel HRS
           obtain ⟨s, hs, lq, cy, hm1, rfl, rfl, k_r, k_x, k_y, k_o, hbel⟩ := hrel
           have K_r := Hd k_r
           have K_x := Hd k_x
           have K_y := Hd k_y
           have K_o := Hd k_o
           have HM1 := Hd hm1
           have HLQ := Hd hm1.1
           have HLT := Hd hm1.2.1
           have hcy := hm1.2.2.1
           clear k_r k_x k_y k_o hm1
           by_cases hs8 : s < 8
           · as_aux_lemma =>
             have hsi : (s : Int) < 8 := by omega
             obtain ⟨z, hz⟩ : ∃ z, z = d * dgt (2 ^ 32) b s + lq.getD (t + s) 0 + cy := ⟨_, rfl⟩
             obtain ⟨hz64, hn⟩ := HM1.out.next h8 hs8 hd32 z hz
             have HN := Hd hn
             have he := dgt_lt (B := 2 ^ 32) (by decide) b s
             have hpj := getD_lt' HLT.out (by decide) (t + s)
             have hfit := fit32 d (dgt (2 ^ 32) b s) (lq.getD (t + s) 0) cy hd32 he hpj hcy
             have cx := K_x.out.nat t (by rw [MA.out]; exact h8)
             rw [xt] at cx
             have cyy := K_y.out.nat s (by rw [MB.out]; exact hs8)
             rw [AB.out s hs8] at cyy
             clear hn HM1 HCRt HPRt AB HLT
             generalize dgt (2 ^ 32) b s = e at *
             obtain ⟨p, hp⟩ : ∃ p, p = t + s := ⟨_, rfl⟩
             rw [← hp] at HN hpj hz hfit
             have e1 : (t : Int) + (s : Int) = (p : Int) := by omega
             have hp16 : p < 16 := by omega
             have hpi : (p : Int) < 16 := by omega
             clear hp
             have c0 := K_o.out.nat p (by rw [HLQ.out]; exact hp16)
             generalize lq.getD p 0 = pj at *
             obtain ⟨cd, hcd⟩ : ∃ cd, cd = d * e := ⟨_, rfl⟩
             rw [← hcd] at hz hfit
             have em := w_mul d e cd hcd (by rw [hcd]; exact Nat.le_trans (Nat.mul_le_mul (show d ≤ 4294967295 by omega) (show e ≤ 4294967295 from Nat.le_of_lt_succ he)) (by decide))
             have e4 := w_add cd pj (cd + pj) rfl hfit.2.2
             have e5 : IntKind.u64.wrap (((cd + pj : Nat) : Int) + (cy : Int)) = (z : Int) := w_add (cd + pj) cy z hz hz64
             have e6 := r_lo z _ rfl
             have e7 := r_hi z _ rfl
             generalize cd + pj = cp at *
             obtain ⟨zl, hzl⟩ : ∃ x, x = z % 4294967296 := ⟨_, rfl⟩
             obtain ⟨zh, hzh⟩ : ∃ x, x = z / 4294967296 := ⟨_, rfl⟩
             rw [← hzl] at e6 HN
             rw [← hzh] at e7 HN
             have e8 := u64_in zh (by omega)
             have Q_r := Hd K_r.out.drew
             have Q_x := Hd K_x.out.drew
             have Q_y := Hd K_y.out.drew
             have Q_o := Hd K_o.out.drew
             have hbelq := hbel.drew
             clear hzl hzh hz hz64 hcd hfit hpj he K_r K_x K_y K_o hbel
             go_wp2_with fail
             go_region
             clear cx cyy c0 em e4 e5
             generalize wr.drew = wd at *
             have c0 := Q_o.out.nat p (by rw [HLQ.out]; exact hp16)
             have f0 := Q_o.out.free p
             have K_r := Hd Q_r.out
             have K_x := Hd Q_x.out
             have K_y := Hd Q_y.out
             have K_o := Hd Q_o.out
             have hbel := hbelq
             have n_o := Hd (K_o.out.natSet p zl)
             have n_r := Hd (K_r.out.other ⟨Go_, p, none⟩ (.int .u64 (zl : Nat)) (show (w.heap.size + 1 + 1 + 1) ≠ Go_ by omega))
             have n_x := Hd (K_x.out.other ⟨Go_, p, none⟩ (.int .u64 (zl : Nat)) (show G14 ≠ Go_ by omega))
             have n_y := Hd (K_y.out.other ⟨Go_, p, none⟩ (.int .u64 (zl : Nat)) (show G33 ≠ Go_ by omega))
             have hb2 := hbel.setCell (p := ⟨Go_, p, none⟩) LE_o (.int .u64 (zl : Nat))
             clear Q_r Q_x Q_y Q_o hbelq K_r K_x K_y K_o hbel
             go_wp2_with fail
             go_roundw
             case rel => exact ⟨s + 1, by omega, _, zh, HN.out, by go_num, rfl, n_r.out, n_x.out, n_y.out, n_o.out, hb2⟩
             case measure => simp [intOf] <;> omega
           · as_aux_lemma =>
             obtain rfl : s = 8 := by omega
             rw [show ((8 : Nat) : Int) = 8 from rfl]
             have HC8 := Hd (HCRt.out cy lq HM1.out)
             clear HM1 HCRt HLT
             obtain ⟨p, hp⟩ : ∃ p, p = t + 8 := ⟨_, rfl⟩
             rw [← hp] at HC8
             have e1 : (t : Int) + 8 = (p : Int) := by omega
             have hp16 : p < 16 := by omega
             have hpi : (p : Int) < 16 := by omega
             clear hp
             go_wp2_with fail
             go_loopw [13, 16] (fun cc kk wr => ∃ k : Nat, k ≤ 16 ∧ ∃ lq cy, CarAt T1 k cy lq ∧ kk = .int .i64 k ∧ cc = .int .u64 (cy : Nat) ∧ Blk wr (w.heap.size + 1 + 1 + 1) 93 (natsV .u64 (zeros 16)) ∧ Blk wr G14 122 (natsV .u64 da) ∧ Blk wr G33 122 (natsV .u64 db) ∧ Blk wr Go_ 93 (natsV .u64 lq) ∧ Below w.heap.size w wr) (fun _ kk _ => 16 - (intOf kk).toNat)
             case atStart => exact ⟨p, by omega, lq, cy, HC8.out, rfl, rfl, K_r.out, K_x.out, K_y.out, K_o.out, hbel⟩
             case round =>
               clear K_r K_x K_y K_o hbel HC8 HLQ
               obtain ⟨k, hk, lq2, cy2, hm2, rfl, rfl, k_r, k_x, k_y, k_o, hbel⟩ := hrel
               have K_r := Hd k_r
               have K_x := Hd k_x
               have K_y := Hd k_y
               have K_o := Hd k_o
               have HM2 := Hd hm2
               have HLQ := Hd hm2.1
               have HLT := Hd hm2.2.1
               have hcy2 := hm2.2.2.1
               clear k_r k_x k_y k_o hm2
               by_cases hk16 : k < 16
               · have hki : (k : Int) < 16 := by omega
                 by_cases hc0 : cy2 = 0
                 · as_aux_lemma =>
                   subst hc0
                   have HP := Hd (HPRt.out k 0 lq2 HM2.out (Or.inr rfl))
                   go_wp2_with fail
                   go_roundw
                   case rel => exact ⟨t + 1, by omega, lq2, HP.out, by go_num, K_r.out, K_x.out, K_y.out, K_o.out, hbel⟩
                   case measure => simp [intOf] <;> omega
                 · as_aux_lemma =>
                   have hcp : (0 : Int) < (cy2 : Int) := by omega
                   obtain ⟨z, hz⟩ : ∃ z, z = lq2.getD k 0 + cy2 := ⟨_, rfl⟩
                   obtain ⟨hz64, hn⟩ := HM2.out.next hk16 z hz
                   have HN := Hd hn
                   have hpj := getD_lt' HLT.out (by decide) k
                   clear hn HM2 HPRt HLT
                   have c0 := K_o.out.nat k (by rw [HLQ.out]; exact hk16)
                   have f0 := K_o.out.free k
                   generalize lq2.getD k 0 = pj at *
                   have e4 := w_add pj cy2 z hz (by omega)
                   have e6 := r_lo z _ rfl
                   have e7 := r_hi z _ rfl
                   obtain ⟨zl, hzl⟩ : ∃ x, x = z % 4294967296 := ⟨_, rfl⟩
                   obtain ⟨zh, hzh⟩ : ∃ x, x = z / 4294967296 := ⟨_, rfl⟩
                   rw [← hzl] at e6 HN
                   rw [← hzh] at e7 HN
                   have e8 := u64_in zh (by omega)
                   have n_o := Hd (K_o.out.natSet k zl)
                   have n_r := Hd (K_r.out.other ⟨Go_, k, none⟩ (.int .u64 (zl : Nat)) (show (w.heap.size + 1 + 1 + 1) ≠ Go_ by omega))
                   have n_x := Hd (K_x.out.other ⟨Go_, k, none⟩ (.int .u64 (zl : Nat)) (show G14 ≠ Go_ by omega))
                   have n_y := Hd (K_y.out.other ⟨Go_, k, none⟩ (.int .u64 (zl : Nat)) (show G33 ≠ Go_ by omega))
                   have hb2 := hbel.setCell (p := ⟨Go_, k, none⟩) LE_o (.int .u64 (zl : Nat))
                   clear hzl hzh hz hz64 hpj K_r K_x K_y K_o hbel
                   go_wp2_with fail
                   go_roundw
                   case rel => exact ⟨k + 1, by omega, _, zh, HN.out, by go_num, rfl, n_r.out, n_x.out, n_y.out, n_o.out, hb2⟩
                   case measure => simp [intOf] <;> omega
               · as_aux_lemma =>
                 obtain rfl : k = 16 := by omega
                 rw [show ((16 : Nat) : Int) = 16 from rfl]
                 have HP := Hd (HPRt.out 16 cy2 lq2 HM2.out (Or.inl rfl))
                 go_wp2_with fail
                 go_roundw
                 case rel => exact ⟨t + 1, by omega, lq2, HP.out, by go_num, K_r.out, K_x.out, K_y.out, K_o.out, hbel⟩
                 case measure => simp [intOf] <;> omega
       · as_aux_lemma =>
         obtain rfl : t = 8 := by omega
         rw [show ((8 : Nat) : Int) = 8 from rfl]
         have HE := HDN.out lp HM.out
         subst HE
         have j3 := K_r.out.setRow (natsV .u64 lp)
         have hb2 := below_setRow' hbel (show w.heap.size ≤ w.heap.size + 1 + 1 + 1 by omega) (natsV .u64 lp).toArray
         go_wp2_with (first | (refine ld122 rfl (.tmp 10) rfl Go_ rfl lp K_o.out LR.out ?_) | (refine st122 rfl (.tmp 6) (.tmp 85) rfl (w.heap.size + 1 + 1 + 1) rfl lp rfl LR.out (zeros 16) K_r.out rfl ?_))
         refine bodyPost_ret (v := .agg (natsV .u64 lp).toArray) ?_ rfl ⟨rfl, hb2⟩
         exact ret122 Tryz.results71 _ _ (w.heap.size + 1 + 1 + 1) lp rfl j3 LR.out
end Go.Proofs.YtdkkombpkojjaaaGreat
