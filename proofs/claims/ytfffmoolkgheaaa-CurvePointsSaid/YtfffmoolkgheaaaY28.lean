/- Parts of proofs of statements, each text behind those that it stands on. No condition of its own. -/
import Derived.Test.YtfffmoolkgheaaaY26
import Derived.Test.YtfffmoolkgheaaaY27
namespace Go.Proofs.Ytfffmoolkgheaaa
open Go.RowKit
set_option linter.unusedVariables false
set_option linter.unusedSimpArgs false
def qP : Nat := mP / 4 + 1
def sN (u : Nat) : Nat := u ^ qP % mP
def OkR (u : Nat) : Prop := sN u * sN u % mP = u
def rN (u : Nat) : Nat := if sN u % 2 = 1 then mP - sN u else sN u
theorem mP_pos : 0 < mP := fld_P.pos
theorem sN_lt (u : Nat) : sN u < mP := Nat.mod_lt _ mP_pos
theorem mP_odd : mP % 2 = 1 := fld_P.odd
theorem rN_lt (u : Nat) : rN u < mP := by
  have h := sN_lt u
  unfold rN; split <;> omega
theorem qP_lt : qP < 2 ^ 256 := by have := fld_P.lt; unfold qP; omega
theorem wds_Q : wds 4 qP = [0, 1073741824, 4611686018427387904, 4611686017353646080] := by decide +kernel
theorem lit_Q : (.agg #[.int .u64 0, .int .u64 1073741824, .int .u64 4611686018427387904, .int .u64 4611686017353646080] : Value) = .agg (natsV .u64 (wds 4 qP)).toArray := by rw [wds_Q]; rfl
theorem Fld.toF_inj {m f v : Nat} (H : Fld m f v) {x y : Nat} (h : toF m x = toF m y) : x % m = y % m := by
  rw [← H.of_to x, ← H.of_to y, h]
theorem okR_iff (u : Nat) (hu : u < mP) : toF mP (u ^ qP * u ^ qP) = toF mP u ↔ OkR u := by
  unfold OkR sN
  rw [← Nat.mul_mod]
  constructor
  · intro h
    have := fld_P.toF_inj h
    rw [Nat.mod_eq_of_lt hu] at this; exact this
  · intro h
    rw [← toF_mod mP (u ^ qP * u ^ qP), h]
theorem toF_neg (s : Nat) (hs : s < mP) : (0 + mP - toF mP s) % mP = toF mP (mP - s) := by
  have h1 : (toF mP (mP - s) + toF mP s) % mP = 0 := by
    unfold toF
    rw [← Nat.add_mod, ← Nat.add_mul, show mP - s + s = mP by omega, Nat.mul_mod_right]
  have hA := toF_lt fld_P (mP - s)
  have hB := toF_lt fld_P s
  generalize toF mP (mP - s) = A at *
  generalize toF mP s = B at *
  have hp := mP_pos
  generalize mP = m at *
  rcases Nat.lt_or_ge (A + B) m with h2 | h2
  · rw [Nat.mod_eq_of_lt h2] at h1
    have e1 : A = 0 := by omega
    have e2 : B = 0 := by omega
    rw [e1, e2]; simp
  · rw [Nat.mod_eq_sub_mod h2, Nat.mod_eq_of_lt (by omega)] at h1
    rw [Nat.mod_eq_of_lt (by omega)]; omega
theorem toF_sN (u : Nat) : toF mP (u ^ qP) = toF mP (sN u) := (toF_mod mP (u ^ qP)).symm
theorem less_mP (s : Nat) (hs : s < mP) : wds 4 (mP + 2 ^ 256 - s) = wds 4 (mP - s) := by
  have e : mP + 2 ^ 256 - s = (mP - s) + 2 ^ (64 * 4) * 1 := by rw [show 2 ^ (64 * 4) = 2 ^ 256 from rfl]; omega
  rw [e, wds_add_pow]
set_option maxRecDepth 100000 in
set_option maxHeartbeats 1600000 in
theorem Root_bad (a : Nat) (w : World) (ha : a < 2 ^ 256) (hc : ¬ a < mP) :
    Calls Try.prog 130 #[.agg (natsV .u64 (wds 4 a)).toArray] w fun e w' => e = .returned (.tuple #[.agg (natsV .u64 (zeros 4)).toArray, .bool false]) ∧ Below w.heap.size w w' := by
  have HPF := Lib.hid (show PErr 1 (wds 4 a) 1 52 from perr_1 1 mP 1 vP a .p ha hc)
  clear ha hc
  have LA := Lib.hid (wds_len 4 a)
  generalize wds 4 a = la at *
  have B1 := Lib.hid ((Blk.new w 24 (natsV .u64 la)).alloc (.cells (natsV .u64 (zeros 4)).toArray 24))
  have B2 := Lib.hid (Blk.new2 w (.cells (natsV .u64 la).toArray 24) 24 (natsV .u64 (zeros 4)))
  have BEL := Lib.hid (((Below.refl w.heap.size w).alloc (Nat.le_refl _) (.cells (natsV .u64 la).toArray 24)).alloc (by simp) (.cells (natsV .u64 (zeros 4)).toArray 24))
  have V1 := Lib.hid (B1.out.alloc (.cells (natsV .u64 la).toArray 24))
  have V2 := Lib.hid (B2.out.alloc (.cells (natsV .u64 la).toArray 24))
  have belV := BEL.out.alloc (by simp; omega) (.cells (natsV .u64 la).toArray 24)
  go_enter Try.func130, Try.ntmps130
  go_wp2_with (first | (refine ld24 rfl (.tmp 1) rfl w.heap.size rfl la B1.out LA.out ?_) | (refine bs1 rfl (.tmp 10) rfl la rfl LA.out ?_))
  clear B1 B2
  refine (HPF.out _ _ (by simp)).mono ?_
  rintro e w1 ⟨rfl, hbw1⟩
  have C2 := Lib.hid (V1.out.below' hbw1)
  have C3 := Lib.hid (V2.out.below' hbw1)
  have hbel4 := belV.trans (hbw1.mono belV.size)
  clear V1 V2 hbw1 belV
  have Z6 := Lib.hid (Blk.new w1 83 ((primL (zeros 4) 0)))
  have hz7 := Lib.hid (below_setRow' (hbel4.alloc hbel4.size (.cells ((primL (zeros 4) 0)).toArray 83)) hbel4.size ((primL (zeros 4) 0)).toArray)
  have Y8 := Lib.hid ((C2.out.alloc (.cells ((primL (zeros 4) 0)).toArray 83)).row ((primL (zeros 4) 0)).toArray (Nat.ne_of_lt C2.out.lt))
  have Y9 := Lib.hid ((C3.out.alloc (.cells ((primL (zeros 4) 0)).toArray 83)).row ((primL (zeros 4) 0)).toArray (Nat.ne_of_lt C3.out.lt))
  have Y10 := Lib.hid (Z6.out.setRow ((primL (zeros 4) 0)))
  go_wp2_with (first | (refine st83 rfl (.tmp 4) (.tmp 13) rfl w1.heap.size rfl (primL (zeros 4) 0) rfl (primL_ok (zeros 4) 0 rfl) (primL (zeros 4) 0) Z6.out rfl ?_; generalize hW : World.setRow _ _ _ = w5; have D12 := Lib.hid (show Blk w5 w.heap.size 24 (natsV .u64 la) from (by rw [← hW]; exact Y8.out)); have D13 := Lib.hid (show Blk w5 (w.heap.size + 1) 24 (natsV .u64 (zeros 4)) from (by rw [← hW]; exact Y9.out)); have D14 := Lib.hid (show Blk w5 w1.heap.size 83 ((primL (zeros 4) 0)) from (by rw [← hW]; exact Y10.out)); have LE_D14 := (hbel4).size; have NE_D12 := Nat.ne_of_lt C2.out.lt; have NE_D13 := Nat.ne_of_lt C3.out.lt; have hbel15 : Below w.heap.size w w5 := (by rw [← hW]; exact hz7.out); clear hW Z6 hz7 C2 C3 Y8 Y9 Y10 hbel4; generalize w1.heap.size = G11 at *) | (refine st24 rfl (.tmp 2) (.tmp 17) rfl (w.heap.size + 1) rfl (zeros 4) (num_lit0.trans (by rw [num_zero])) rfl (zeros 4) D13.out rfl ?_))
  refine bodyPost_ret (v := .tuple #[.agg (natsV .u64 (zeros 4)).toArray, .bool false]) ?_ rfl ⟨rfl, below_setRow' hbel15 (by first | exact Nat.le_refl _ | omega) _⟩
  exact ret24x Try.results130 _ _ (w.heap.size + 1) (zeros 4) _ rfl rfl (D13.out.setRow _) rfl
set_option maxRecDepth 100000 in
set_option maxHeartbeats 1600000 in
theorem Root_none (a : Nat) (w : World) (hc : a < mP) (ho : ¬ OkR (ofF mP vP a)) :
    Calls Try.prog 130 #[.agg (natsV .u64 (wds 4 a)).toArray] w fun e w' => e = .returned (.tuple #[.agg (natsV .u64 (zeros 4)).toArray, .bool false]) ∧ Below w.heap.size w w' := by
  have H := fld_P
  have hm := H.lt
  have HPF := Lib.hid (show POk 1 (wds 4 a) 1 (wds 4 mP) 1 from pok_1 1 mP 1 vP a .p hc)
  have HSH := Lib.hid (fun w => Shr_any mP 2 w hm (by omega) (by omega))
  rw [show mP / 2 ^ (2 : Int).toNat = mP / 4 from rfl] at HSH
  have HAD := Lib.hid (fun w => Add_any (mP / 4) 1 w (by omega) (by decide))
  rw [← num_lit1, show mP / 4 + 1 = qP from rfl] at HAD
  obtain ⟨u, hu⟩ : ∃ u, u = ofF mP vP a := ⟨_, rfl⟩
  have hul : u < mP := by rw [hu]; exact ofF_lt H a
  have hau : toF mP u = a := by rw [hu]; exact H.to_of_lt hc
  have HPW := Lib.hid (fun w => power_any mP 1 vP a qP w H hc qP_lt)
  rw [← hu] at HPW ho
  have HSQ := Lib.hid (fun w => ptimes_any mP 1 vP (toF mP (u ^ qP)) (toF mP (u ^ qP)) w H (sq_fit H (toF_lt H _) (toF_lt H _)).1 (Nat.lt_trans (toF_lt H _) hm) (Nat.lt_trans (toF_lt H _) hm))
  rw [H.mul_to] at HSQ
  have QN := Lib.hid (fun w => neq24 (wds 4 (toF mP (u ^ qP * u ^ qP))) (wds 4 a) (wds_len 4 _) (wds_len 4 _) w)
  rw [wds_inj 4 _ a (Nat.lt_trans (toF_lt H _) hm) (Nat.lt_trans hc hm)] at QN
  rw [decide_eq_false (fun h => ho ((okR_iff u hul).1 (h.trans hau.symm))), Bool.not_false] at QN
  have LQ := Lib.hid (wds_len 4 qP)
  have L0 := Lib.hid (wds_len 4 (toF mP (u ^ qP)))
  have LM := Lib.hid (wds_len 4 mP)
  have LP := Lib.hid (primL_ok (wds 4 mP) 1 (wds_len 4 mP))
  generalize wds 4 (toF mP (u ^ qP * u ^ qP)) = lsq at *
  generalize wds 4 (toF mP (u ^ qP)) = l0 at *
  generalize wds 4 qP = lq at *
  generalize wds 4 (mP / 4) = l4 at *
  generalize addC (mP / 4) 1 = cy at *
  generalize wds 4 mP = lm at *
  clear H hm hu hul hau hc ho
  have LA := Lib.hid (wds_len 4 a)
  generalize wds 4 a = la at *
  have i71 : (Try.prog.info? 83).map (·.size) = some (primL lm 1).length := by rw [info83, LP.out.1]
  have i24a : (Try.prog.info? 24).map (·.size) = some (natsV .u64 la).length := by rw [info24, natsV_length, LA.out]
  have i240 : (Try.prog.info? 24).map (·.size) = some (natsV .u64 l0).length := by rw [info24, natsV_length, L0.out]
  have B1 := Lib.hid ((Blk.new w 24 (natsV .u64 la)).alloc (.cells (natsV .u64 (zeros 4)).toArray 24))
  have B2 := Lib.hid (Blk.new2 w (.cells (natsV .u64 la).toArray 24) 24 (natsV .u64 (zeros 4)))
  have BEL := Lib.hid (((Below.refl w.heap.size w).alloc (Nat.le_refl _) (.cells (natsV .u64 la).toArray 24)).alloc (by simp) (.cells (natsV .u64 (zeros 4)).toArray 24))
  have V1 := Lib.hid (B1.out.alloc (.cells (natsV .u64 la).toArray 24))
  have V2 := Lib.hid (B2.out.alloc (.cells (natsV .u64 la).toArray 24))
  have belV := BEL.out.alloc (by simp; omega) (.cells (natsV .u64 la).toArray 24)
  go_enter Try.func130, Try.ntmps130
  go_wp2_with (first | (refine ld24 rfl (.tmp 1) rfl w.heap.size rfl la B1.out LA.out ?_) | (refine bs1 rfl (.tmp 10) rfl la rfl LA.out ?_))
  clear B1 B2
  refine (HPF.out _ _ (by simp)).mono ?_
  rintro e w1 ⟨rfl, hbw1⟩
  have C2 := Lib.hid (V1.out.below' hbw1)
  have C3 := Lib.hid (V2.out.below' hbw1)
  have hbel4 := belV.trans (hbw1.mono belV.size)
  clear V1 V2 hbw1 belV
  have Z6 := Lib.hid (Blk.new w1 83 ((primL (zeros 4) 0)))
  have hz7 := Lib.hid (below_setRow' (hbel4.alloc hbel4.size (.cells ((primL (zeros 4) 0)).toArray 83)) hbel4.size ((primL lm 1)).toArray)
  have Y8 := Lib.hid ((C2.out.alloc (.cells ((primL (zeros 4) 0)).toArray 83)).row ((primL lm 1)).toArray (Nat.ne_of_lt C2.out.lt))
  have Y9 := Lib.hid ((C3.out.alloc (.cells ((primL (zeros 4) 0)).toArray 83)).row ((primL lm 1)).toArray (Nat.ne_of_lt C3.out.lt))
  have Y10 := Lib.hid (Z6.out.setRow ((primL lm 1)))
  go_wp2_with (first | (refine st83 rfl (.tmp 4) (.tmp 13) rfl w1.heap.size rfl (primL lm 1) rfl LP.out (primL (zeros 4) 0) Z6.out rfl ?_; generalize hW : World.setRow _ _ _ = w5; have D12 := Lib.hid (show Blk w5 w.heap.size 24 (natsV .u64 la) from (by rw [← hW]; exact Y8.out)); have D13 := Lib.hid (show Blk w5 (w.heap.size + 1) 24 (natsV .u64 (zeros 4)) from (by rw [← hW]; exact Y9.out)); have D14 := Lib.hid (show Blk w5 w1.heap.size 83 ((primL lm 1)) from (by rw [← hW]; exact Y10.out)); have LE_D14 := (hbel4).size; have NE_D12 := Nat.ne_of_lt C2.out.lt; have NE_D13 := Nat.ne_of_lt C3.out.lt; have hbel15 : Below w.heap.size w w5 := (by rw [← hW]; exact hz7.out); clear hW Z6 hz7 C2 C3 Y8 Y9 Y10 hbel4; generalize w1.heap.size = G11 at *) | (refine ldm rfl (.tmp 19) rfl G11 rfl lm _ D14.out LM.out ?_))
  refine (HSH.out _).mono ?_
  rintro e w16 ⟨rfl, hbw16⟩
  have C17 := Lib.hid (D12.out.below' hbw16)
  have C18 := Lib.hid (D13.out.below' hbw16)
  have C19 := Lib.hid (D14.out.below' hbw16)
  have hbel20 := hbel15.trans (hbw16.mono hbel15.size)
  clear D12 D13 D14 hbw16 hbel15
  go_wp2_with fail
  refine (HAD.out _).mono ?_
  rintro e w21 ⟨rfl, hbw21⟩
  have C22 := Lib.hid (C17.out.below' hbw21)
  have C23 := Lib.hid (C18.out.below' hbw21)
  have C24 := Lib.hid (C19.out.below' hbw21)
  have hbel25 := hbel20.trans (hbw21.mono hbel20.size)
  clear C17 C18 C19 hbw21 hbel20
  have Z27 := Lib.hid (Blk.new w21 24 (natsV .u64 (zeros 4)))
  have hz28 := Lib.hid (below_setRow' (hbel25.alloc hbel25.size (.cells (natsV .u64 (zeros 4)).toArray 24)) hbel25.size (natsV .u64 lq).toArray)
  have Y29 := Lib.hid ((C22.out.alloc (.cells (natsV .u64 (zeros 4)).toArray 24)).row (natsV .u64 lq).toArray (Nat.ne_of_lt C22.out.lt))
  have Y30 := Lib.hid ((C23.out.alloc (.cells (natsV .u64 (zeros 4)).toArray 24)).row (natsV .u64 lq).toArray (Nat.ne_of_lt C23.out.lt))
  have Y31 := Lib.hid ((C24.out.alloc (.cells (natsV .u64 (zeros 4)).toArray 24)).row (natsV .u64 lq).toArray (Nat.ne_of_lt C24.out.lt))
  have Y32 := Lib.hid (Z27.out.setRow (natsV .u64 lq))
  go_wp2_with (first | (refine st24 rfl (.tmp 6) (.tmp 24) rfl w21.heap.size rfl lq rfl LQ.out (zeros 4) Z27.out rfl ?_; generalize hW : World.setRow _ _ _ = w26; have D34 := Lib.hid (show Blk w26 w.heap.size 24 (natsV .u64 la) from (by rw [← hW]; exact Y29.out)); have D35 := Lib.hid (show Blk w26 (w.heap.size + 1) 24 (natsV .u64 (zeros 4)) from (by rw [← hW]; exact Y30.out)); have D36 := Lib.hid (show Blk w26 G11 83 ((primL lm 1)) from (by rw [← hW]; exact Y31.out)); have D37 := Lib.hid (show Blk w26 w21.heap.size 24 (natsV .u64 lq) from (by rw [← hW]; exact Y32.out)); have LE_D37 := (hbel25).size; have NE_D34 := Nat.ne_of_lt C22.out.lt; have NE_D35 := Nat.ne_of_lt C23.out.lt; have NE_D36 := Nat.ne_of_lt C24.out.lt; have hbel38 : Below w.heap.size w w26 := (by rw [← hW]; exact hz28.out); clear hW Z27 hz28 C22 C23 C24 Y29 Y30 Y31 Y32 hbel25; generalize w21.heap.size = G33 at *) | (refine ld83 rfl (.tmp 4) rfl G11 rfl (primL lm 1) D36.out LP.out.1 ?_) | (refine ld24 rfl (.tmp 1) rfl w.heap.size rfl la D34.out LA.out ?_) | (refine ld24 rfl (.tmp 6) rfl G33 rfl lq D37.out LQ.out ?_))
  refine (HPW.out _).mono ?_
  rintro e w39 ⟨rfl, hbw39⟩
  have C40 := Lib.hid (D34.out.below' hbw39)
  have C41 := Lib.hid (D35.out.below' hbw39)
  have C42 := Lib.hid (D36.out.below' hbw39)
  have C43 := Lib.hid (D37.out.below' hbw39)
  have hbel44 := hbel38.trans (hbw39.mono hbel38.size)
  clear D34 D35 D36 D37 hbw39 hbel38
  have Z46 := Lib.hid (Blk.new w39 24 (natsV .u64 (zeros 4)))
  have hz47 := Lib.hid (below_setRow' (hbel44.alloc hbel44.size (.cells (natsV .u64 (zeros 4)).toArray 24)) hbel44.size (natsV .u64 l0).toArray)
  have Y48 := Lib.hid ((C40.out.alloc (.cells (natsV .u64 (zeros 4)).toArray 24)).row (natsV .u64 l0).toArray (Nat.ne_of_lt C40.out.lt))
  have Y49 := Lib.hid ((C41.out.alloc (.cells (natsV .u64 (zeros 4)).toArray 24)).row (natsV .u64 l0).toArray (Nat.ne_of_lt C41.out.lt))
  have Y50 := Lib.hid ((C42.out.alloc (.cells (natsV .u64 (zeros 4)).toArray 24)).row (natsV .u64 l0).toArray (Nat.ne_of_lt C42.out.lt))
  have Y51 := Lib.hid ((C43.out.alloc (.cells (natsV .u64 (zeros 4)).toArray 24)).row (natsV .u64 l0).toArray (Nat.ne_of_lt C43.out.lt))
  have Y52 := Lib.hid (Z46.out.setRow (natsV .u64 l0))
  go_wp2_with (first | (refine st24 rfl (.tmp 8) (.tmp 29) rfl w39.heap.size rfl l0 rfl L0.out (zeros 4) Z46.out rfl ?_; generalize hW : World.setRow _ _ _ = w45; have D54 := Lib.hid (show Blk w45 w.heap.size 24 (natsV .u64 la) from (by rw [← hW]; exact Y48.out)); have D55 := Lib.hid (show Blk w45 (w.heap.size + 1) 24 (natsV .u64 (zeros 4)) from (by rw [← hW]; exact Y49.out)); have D56 := Lib.hid (show Blk w45 G11 83 ((primL lm 1)) from (by rw [← hW]; exact Y50.out)); have D57 := Lib.hid (show Blk w45 G33 24 (natsV .u64 lq) from (by rw [← hW]; exact Y51.out)); have D58 := Lib.hid (show Blk w45 w39.heap.size 24 (natsV .u64 l0) from (by rw [← hW]; exact Y52.out)); have LE_D58 := (hbel44).size; have NE_D54 := Nat.ne_of_lt C40.out.lt; have NE_D55 := Nat.ne_of_lt C41.out.lt; have NE_D56 := Nat.ne_of_lt C42.out.lt; have NE_D57 := Nat.ne_of_lt C43.out.lt; have hbel59 : Below w.heap.size w w45 := (by rw [← hW]; exact hz47.out); clear hW Z46 hz47 C40 C41 C42 C43 Y48 Y49 Y50 Y51 Y52 hbel44; generalize w39.heap.size = G53 at *))
  as_aux_lemma =>
  refine wp_region_held_drew (S := (fun w' => w'.rangeAt G11 0 ((primL lm 1)) ∧ w'.rangeAt G53 0 (natsV .u64 l0) ∧ w'.rangeAt w.heap.size 0 (natsV .u64 la))) (by kernel_rfl) ⟨blk_rangeV D56.out.drew, blk_rangeV D58.out.drew, blk_rangeV D54.out.drew⟩ (fun hHeld => ?_)
  refine wpAnyH_take (i := 0) (oi := _) (v := _) rfl (by kernel_rfl) (by kernel_rfl) (by kernel_rfl) (fun _ _ _ h => h) (yieldsIf_load_mid (by rfl) _ _ rfl _ _ rfl _ _ (by intro w hSw; exact hSw.1) Try.underlying83 rfl i71) hHeld ?_
  try simp only [Act.put, zq1, zq2, zq3, zq4, zq5, zq6]
  refine wpAnyH_take (i := 1) (oi := _) (v := _) rfl (by kernel_rfl) (by kernel_rfl) (by kernel_rfl) (fun _ _ _ h => h) (yieldsIf_load_mid (by rfl) _ _ rfl _ _ rfl _ _ (by intro w hSw; exact hSw.2.1) Try.underlying24 rfl i240) hHeld ?_
  try simp only [Act.put, zq1, zq2, zq3, zq4, zq5, zq6]
  refine wpAnyH_take (i := 2) (oi := _) (v := _) rfl (by kernel_rfl) (by kernel_rfl) (by kernel_rfl) (fun _ _ _ h => h) (yieldsIf_load_mid (by rfl) _ _ rfl _ _ rfl _ _ (by intro w hSw; exact hSw.2.1) Try.underlying24 rfl i240) hHeld ?_
  try simp only [Act.put, zq1, zq2, zq3, zq4, zq5, zq6]
  refine wpAnyH_take (i := 4) (oi := _) (v := _) rfl (by kernel_rfl) (by kernel_rfl) (by kernel_rfl) (fun _ _ _ h => h) (yieldsIf_load_mid (by rfl) _ _ rfl _ _ rfl _ _ (by intro w hSw; exact hSw.2.2) Try.underlying24 rfl i24a) hHeld ?_
  try simp only [Act.put, zq1, zq2, zq3, zq4, zq5, zq6]
  refine wpAnyH_ready (rs := [3]) (by kernel_rfl) (by simp) ?_
  refine AllReadyH.cons (o := _) rfl (fun K hK => ?_) AllReadyH.nil
  go_simp
  go_at_call 62
  refine (HSQ.out _).mono ?_
  rintro e wx901 ⟨rfl, hbx901⟩
  refine hK.out _ _ ⟨range_keepF hHeld.1 hbx901, range_keepF hHeld.2.1 hbx901, range_keepF hHeld.2.2 hbx901⟩ (fun hHeld2 => ?_)
  clear hK K hHeld
  have hHeld := hHeld2
  clear hHeld2
  try simp only [Act.put, zq1, zq2, zq3, zq4, zq5, zq6]
  have q := QN.out
  refine wpAnyH_take (i := 5) (oi := _) (v := _) rfl (by kernel_rfl) (by kernel_rfl) (by kernel_rfl) (fun _ _ _ h => h) (Or.inl ⟨by rfl, by intro w hSw; (try dsimp only at hSw); go_simp; first | done | with_reducible rfl⟩) hHeld ?_
  try simp only [Act.put, zq1, zq2, zq3, zq4, zq5, zq6]
  clear q
  refine wpAnyH_done (by kernel_rfl) ?_ _
  have E60 := Lib.hid (D54.out.drew.below' hbx901)
  have E61 := Lib.hid (D55.out.drew.below' hbx901)
  have E62 := Lib.hid (D56.out.drew.below' hbx901)
  have E63 := Lib.hid (D57.out.drew.below' hbx901)
  have E64 := Lib.hid (D58.out.drew.below' hbx901)
  have hbel65 := (hbel59.drew).trans (hbx901.mono (hbel59.drew).size)
  clear hHeld hbx901 D54 D55 D56 D57 D58
  as_aux_lemma =>
  go_wp2_with (first | (refine st24 rfl (.tmp 2) (.tmp 36) rfl (w.heap.size + 1) rfl (zeros 4) (num_lit0.trans (by rw [num_zero])) rfl (zeros 4) E61.out rfl ?_))
  refine bodyPost_ret (v := .tuple #[.agg (natsV .u64 (zeros 4)).toArray, .bool false]) ?_ rfl ⟨rfl, below_setRow' hbel65 (by first | exact Nat.le_refl _ | omega) _⟩
  exact ret24x Try.results130 _ _ (w.heap.size + 1) (zeros 4) _ rfl rfl (E61.out.setRow _) rfl
set_option maxRecDepth 100000 in
set_option maxHeartbeats 1600000 in
theorem Root_even (a : Nat) (w : World) (hc : a < mP) (ho : OkR (ofF mP vP a)) (hs : sN (ofF mP vP a) % 2 = 0) :
    Calls Try.prog 130 #[.agg (natsV .u64 (wds 4 a)).toArray] w fun e w' => e = .returned (.tuple #[.agg (natsV .u64 (wds 4 (toF mP (rN (ofF mP vP a))))).toArray, .bool true]) ∧ Below w.heap.size w w' := by
  have H := fld_P
  have hm := H.lt
  have HPF := Lib.hid (show POk 1 (wds 4 a) 1 (wds 4 mP) 1 from pok_1 1 mP 1 vP a .p hc)
  have HSH := Lib.hid (fun w => Shr_any mP 2 w hm (by omega) (by omega))
  rw [show mP / 2 ^ (2 : Int).toNat = mP / 4 from rfl] at HSH
  have HAD := Lib.hid (fun w => Add_any (mP / 4) 1 w (by omega) (by decide))
  rw [← num_lit1, show mP / 4 + 1 = qP from rfl] at HAD
  obtain ⟨u, hu⟩ : ∃ u, u = ofF mP vP a := ⟨_, rfl⟩
  have hul : u < mP := by rw [hu]; exact ofF_lt H a
  have hau : toF mP u = a := by rw [hu]; exact H.to_of_lt hc
  have HPW := Lib.hid (fun w => power_any mP 1 vP a qP w H hc qP_lt)
  rw [← hu] at HPW ho hs ⊢
  have HSQ := Lib.hid (fun w => ptimes_any mP 1 vP (toF mP (u ^ qP)) (toF mP (u ^ qP)) w H (sq_fit H (toF_lt H _) (toF_lt H _)).1 (Nat.lt_trans (toF_lt H _) hm) (Nat.lt_trans (toF_lt H _) hm))
  rw [H.mul_to] at HSQ
  have QN := Lib.hid (fun w => neq24 (wds 4 (toF mP (u ^ qP * u ^ qP))) (wds 4 a) (wds_len 4 _) (wds_len 4 _) w)
  rw [wds_inj 4 _ a (Nat.lt_trans (toF_lt H _) hm) (Nat.lt_trans hc hm)] at QN
  rw [decide_eq_true (((okR_iff u hul).2 ho).trans hau), Bool.not_true] at QN
  have HOU := Lib.hid (fun w => out_any mP 1 vP (toF mP (u ^ qP)) w H (Nat.lt_trans (toF_lt H _) hm))
  rw [H.of_to, show u ^ qP % mP = sN u from rfl] at HOU
  have HBI := Lib.hid (fun w => Bit_any (sN u) 0 w (by omega) (by omega))
  rw [show bitZ (sN u) 0 = sN u % 2 by have := bitZ_in (sN u) 0 (by omega); simpa using this, hs] at HBI
  rw [show rN u = sN u from if_neg (by omega), ← toF_sN u]
  generalize wds 4 (sN u) = ls at *
  have LQ := Lib.hid (wds_len 4 qP)
  have L0 := Lib.hid (wds_len 4 (toF mP (u ^ qP)))
  have LM := Lib.hid (wds_len 4 mP)
  have LP := Lib.hid (primL_ok (wds 4 mP) 1 (wds_len 4 mP))
  generalize wds 4 (toF mP (u ^ qP * u ^ qP)) = lsq at *
  generalize wds 4 (toF mP (u ^ qP)) = l0 at *
  generalize wds 4 qP = lq at *
  generalize wds 4 (mP / 4) = l4 at *
  generalize addC (mP / 4) 1 = cy at *
  generalize wds 4 mP = lm at *
  clear H hm hu hul hau hc ho hs
  have LA := Lib.hid (wds_len 4 a)
  generalize wds 4 a = la at *
  have i71 : (Try.prog.info? 83).map (·.size) = some (primL lm 1).length := by rw [info83, LP.out.1]
  have i24a : (Try.prog.info? 24).map (·.size) = some (natsV .u64 la).length := by rw [info24, natsV_length, LA.out]
  have i240 : (Try.prog.info? 24).map (·.size) = some (natsV .u64 l0).length := by rw [info24, natsV_length, L0.out]
  have B1 := Lib.hid ((Blk.new w 24 (natsV .u64 la)).alloc (.cells (natsV .u64 (zeros 4)).toArray 24))
  have B2 := Lib.hid (Blk.new2 w (.cells (natsV .u64 la).toArray 24) 24 (natsV .u64 (zeros 4)))
  have BEL := Lib.hid (((Below.refl w.heap.size w).alloc (Nat.le_refl _) (.cells (natsV .u64 la).toArray 24)).alloc (by simp) (.cells (natsV .u64 (zeros 4)).toArray 24))
  have V1 := Lib.hid (B1.out.alloc (.cells (natsV .u64 la).toArray 24))
  have V2 := Lib.hid (B2.out.alloc (.cells (natsV .u64 la).toArray 24))
  have belV := BEL.out.alloc (by simp; omega) (.cells (natsV .u64 la).toArray 24)
  go_enter Try.func130, Try.ntmps130
  go_wp2_with (first | (refine ld24 rfl (.tmp 1) rfl w.heap.size rfl la B1.out LA.out ?_) | (refine bs1 rfl (.tmp 10) rfl la rfl LA.out ?_))
  clear B1 B2
  refine (HPF.out _ _ (by simp)).mono ?_
  rintro e w1 ⟨rfl, hbw1⟩
  have C2 := Lib.hid (V1.out.below' hbw1)
  have C3 := Lib.hid (V2.out.below' hbw1)
  have hbel4 := belV.trans (hbw1.mono belV.size)
  clear V1 V2 hbw1 belV
  have Z6 := Lib.hid (Blk.new w1 83 ((primL (zeros 4) 0)))
  have hz7 := Lib.hid (below_setRow' (hbel4.alloc hbel4.size (.cells ((primL (zeros 4) 0)).toArray 83)) hbel4.size ((primL lm 1)).toArray)
  have Y8 := Lib.hid ((C2.out.alloc (.cells ((primL (zeros 4) 0)).toArray 83)).row ((primL lm 1)).toArray (Nat.ne_of_lt C2.out.lt))
  have Y9 := Lib.hid ((C3.out.alloc (.cells ((primL (zeros 4) 0)).toArray 83)).row ((primL lm 1)).toArray (Nat.ne_of_lt C3.out.lt))
  have Y10 := Lib.hid (Z6.out.setRow ((primL lm 1)))
  go_wp2_with (first | (refine st83 rfl (.tmp 4) (.tmp 13) rfl w1.heap.size rfl (primL lm 1) rfl LP.out (primL (zeros 4) 0) Z6.out rfl ?_; generalize hW : World.setRow _ _ _ = w5; have D12 := Lib.hid (show Blk w5 w.heap.size 24 (natsV .u64 la) from (by rw [← hW]; exact Y8.out)); have D13 := Lib.hid (show Blk w5 (w.heap.size + 1) 24 (natsV .u64 (zeros 4)) from (by rw [← hW]; exact Y9.out)); have D14 := Lib.hid (show Blk w5 w1.heap.size 83 ((primL lm 1)) from (by rw [← hW]; exact Y10.out)); have LE_D14 := (hbel4).size; have NE_D12 := Nat.ne_of_lt C2.out.lt; have NE_D13 := Nat.ne_of_lt C3.out.lt; have hbel15 : Below w.heap.size w w5 := (by rw [← hW]; exact hz7.out); clear hW Z6 hz7 C2 C3 Y8 Y9 Y10 hbel4; generalize w1.heap.size = G11 at *) | (refine ldm rfl (.tmp 19) rfl G11 rfl lm _ D14.out LM.out ?_))
  refine (HSH.out _).mono ?_
  rintro e w16 ⟨rfl, hbw16⟩
  have C17 := Lib.hid (D12.out.below' hbw16)
  have C18 := Lib.hid (D13.out.below' hbw16)
  have C19 := Lib.hid (D14.out.below' hbw16)
  have hbel20 := hbel15.trans (hbw16.mono hbel15.size)
  clear D12 D13 D14 hbw16 hbel15
  go_wp2_with fail
  refine (HAD.out _).mono ?_
  rintro e w21 ⟨rfl, hbw21⟩
  have C22 := Lib.hid (C17.out.below' hbw21)
  have C23 := Lib.hid (C18.out.below' hbw21)
  have C24 := Lib.hid (C19.out.below' hbw21)
  have hbel25 := hbel20.trans (hbw21.mono hbel20.size)
  clear C17 C18 C19 hbw21 hbel20
  have Z27 := Lib.hid (Blk.new w21 24 (natsV .u64 (zeros 4)))
  have hz28 := Lib.hid (below_setRow' (hbel25.alloc hbel25.size (.cells (natsV .u64 (zeros 4)).toArray 24)) hbel25.size (natsV .u64 lq).toArray)
  have Y29 := Lib.hid ((C22.out.alloc (.cells (natsV .u64 (zeros 4)).toArray 24)).row (natsV .u64 lq).toArray (Nat.ne_of_lt C22.out.lt))
  have Y30 := Lib.hid ((C23.out.alloc (.cells (natsV .u64 (zeros 4)).toArray 24)).row (natsV .u64 lq).toArray (Nat.ne_of_lt C23.out.lt))
  have Y31 := Lib.hid ((C24.out.alloc (.cells (natsV .u64 (zeros 4)).toArray 24)).row (natsV .u64 lq).toArray (Nat.ne_of_lt C24.out.lt))
  have Y32 := Lib.hid (Z27.out.setRow (natsV .u64 lq))
  go_wp2_with (first | (refine st24 rfl (.tmp 6) (.tmp 24) rfl w21.heap.size rfl lq rfl LQ.out (zeros 4) Z27.out rfl ?_; generalize hW : World.setRow _ _ _ = w26; have D34 := Lib.hid (show Blk w26 w.heap.size 24 (natsV .u64 la) from (by rw [← hW]; exact Y29.out)); have D35 := Lib.hid (show Blk w26 (w.heap.size + 1) 24 (natsV .u64 (zeros 4)) from (by rw [← hW]; exact Y30.out)); have D36 := Lib.hid (show Blk w26 G11 83 ((primL lm 1)) from (by rw [← hW]; exact Y31.out)); have D37 := Lib.hid (show Blk w26 w21.heap.size 24 (natsV .u64 lq) from (by rw [← hW]; exact Y32.out)); have LE_D37 := (hbel25).size; have NE_D34 := Nat.ne_of_lt C22.out.lt; have NE_D35 := Nat.ne_of_lt C23.out.lt; have NE_D36 := Nat.ne_of_lt C24.out.lt; have hbel38 : Below w.heap.size w w26 := (by rw [← hW]; exact hz28.out); clear hW Z27 hz28 C22 C23 C24 Y29 Y30 Y31 Y32 hbel25; generalize w21.heap.size = G33 at *) | (refine ld83 rfl (.tmp 4) rfl G11 rfl (primL lm 1) D36.out LP.out.1 ?_) | (refine ld24 rfl (.tmp 1) rfl w.heap.size rfl la D34.out LA.out ?_) | (refine ld24 rfl (.tmp 6) rfl G33 rfl lq D37.out LQ.out ?_))
  refine (HPW.out _).mono ?_
  rintro e w39 ⟨rfl, hbw39⟩
  have C40 := Lib.hid (D34.out.below' hbw39)
  have C41 := Lib.hid (D35.out.below' hbw39)
  have C42 := Lib.hid (D36.out.below' hbw39)
  have C43 := Lib.hid (D37.out.below' hbw39)
  have hbel44 := hbel38.trans (hbw39.mono hbel38.size)
  clear D34 D35 D36 D37 hbw39 hbel38
  have Z46 := Lib.hid (Blk.new w39 24 (natsV .u64 (zeros 4)))
  have hz47 := Lib.hid (below_setRow' (hbel44.alloc hbel44.size (.cells (natsV .u64 (zeros 4)).toArray 24)) hbel44.size (natsV .u64 l0).toArray)
  have Y48 := Lib.hid ((C40.out.alloc (.cells (natsV .u64 (zeros 4)).toArray 24)).row (natsV .u64 l0).toArray (Nat.ne_of_lt C40.out.lt))
  have Y49 := Lib.hid ((C41.out.alloc (.cells (natsV .u64 (zeros 4)).toArray 24)).row (natsV .u64 l0).toArray (Nat.ne_of_lt C41.out.lt))
  have Y50 := Lib.hid ((C42.out.alloc (.cells (natsV .u64 (zeros 4)).toArray 24)).row (natsV .u64 l0).toArray (Nat.ne_of_lt C42.out.lt))
  have Y51 := Lib.hid ((C43.out.alloc (.cells (natsV .u64 (zeros 4)).toArray 24)).row (natsV .u64 l0).toArray (Nat.ne_of_lt C43.out.lt))
  have Y52 := Lib.hid (Z46.out.setRow (natsV .u64 l0))
  go_wp2_with (first | (refine st24 rfl (.tmp 8) (.tmp 29) rfl w39.heap.size rfl l0 rfl L0.out (zeros 4) Z46.out rfl ?_; generalize hW : World.setRow _ _ _ = w45; have D54 := Lib.hid (show Blk w45 w.heap.size 24 (natsV .u64 la) from (by rw [← hW]; exact Y48.out)); have D55 := Lib.hid (show Blk w45 (w.heap.size + 1) 24 (natsV .u64 (zeros 4)) from (by rw [← hW]; exact Y49.out)); have D56 := Lib.hid (show Blk w45 G11 83 ((primL lm 1)) from (by rw [← hW]; exact Y50.out)); have D57 := Lib.hid (show Blk w45 G33 24 (natsV .u64 lq) from (by rw [← hW]; exact Y51.out)); have D58 := Lib.hid (show Blk w45 w39.heap.size 24 (natsV .u64 l0) from (by rw [← hW]; exact Y52.out)); have LE_D58 := (hbel44).size; have NE_D54 := Nat.ne_of_lt C40.out.lt; have NE_D55 := Nat.ne_of_lt C41.out.lt; have NE_D56 := Nat.ne_of_lt C42.out.lt; have NE_D57 := Nat.ne_of_lt C43.out.lt; have hbel59 : Below w.heap.size w w45 := (by rw [← hW]; exact hz47.out); clear hW Z46 hz47 C40 C41 C42 C43 Y48 Y49 Y50 Y51 Y52 hbel44; generalize w39.heap.size = G53 at *))
  as_aux_lemma =>
  refine wp_region_held_drew (S := (fun w' => w'.rangeAt G11 0 ((primL lm 1)) ∧ w'.rangeAt G53 0 (natsV .u64 l0) ∧ w'.rangeAt w.heap.size 0 (natsV .u64 la))) (by kernel_rfl) ⟨blk_rangeV D56.out.drew, blk_rangeV D58.out.drew, blk_rangeV D54.out.drew⟩ (fun hHeld => ?_)
  refine wpAnyH_take (i := 0) (oi := _) (v := _) rfl (by kernel_rfl) (by kernel_rfl) (by kernel_rfl) (fun _ _ _ h => h) (yieldsIf_load_mid (by rfl) _ _ rfl _ _ rfl _ _ (by intro w hSw; exact hSw.1) Try.underlying83 rfl i71) hHeld ?_
  try simp only [Act.put, zq1, zq2, zq3, zq4, zq5, zq6]
  refine wpAnyH_take (i := 1) (oi := _) (v := _) rfl (by kernel_rfl) (by kernel_rfl) (by kernel_rfl) (fun _ _ _ h => h) (yieldsIf_load_mid (by rfl) _ _ rfl _ _ rfl _ _ (by intro w hSw; exact hSw.2.1) Try.underlying24 rfl i240) hHeld ?_
  try simp only [Act.put, zq1, zq2, zq3, zq4, zq5, zq6]
  refine wpAnyH_take (i := 2) (oi := _) (v := _) rfl (by kernel_rfl) (by kernel_rfl) (by kernel_rfl) (fun _ _ _ h => h) (yieldsIf_load_mid (by rfl) _ _ rfl _ _ rfl _ _ (by intro w hSw; exact hSw.2.1) Try.underlying24 rfl i240) hHeld ?_
  try simp only [Act.put, zq1, zq2, zq3, zq4, zq5, zq6]
  refine wpAnyH_take (i := 4) (oi := _) (v := _) rfl (by kernel_rfl) (by kernel_rfl) (by kernel_rfl) (fun _ _ _ h => h) (yieldsIf_load_mid (by rfl) _ _ rfl _ _ rfl _ _ (by intro w hSw; exact hSw.2.2) Try.underlying24 rfl i24a) hHeld ?_
  try simp only [Act.put, zq1, zq2, zq3, zq4, zq5, zq6]
  refine wpAnyH_ready (rs := [3]) (by kernel_rfl) (by simp) ?_
  refine AllReadyH.cons (o := _) rfl (fun K hK => ?_) AllReadyH.nil
  go_simp
  go_at_call 62
  refine (HSQ.out _).mono ?_
  rintro e wx901 ⟨rfl, hbx901⟩
  refine hK.out _ _ ⟨range_keepF hHeld.1 hbx901, range_keepF hHeld.2.1 hbx901, range_keepF hHeld.2.2 hbx901⟩ (fun hHeld2 => ?_)
  clear hK K hHeld
  have hHeld := hHeld2
  clear hHeld2
  try simp only [Act.put, zq1, zq2, zq3, zq4, zq5, zq6]
  have q := QN.out
  refine wpAnyH_take (i := 5) (oi := _) (v := _) rfl (by kernel_rfl) (by kernel_rfl) (by kernel_rfl) (fun _ _ _ h => h) (Or.inl ⟨by rfl, by intro w hSw; (try dsimp only at hSw); go_simp; first | done | with_reducible rfl⟩) hHeld ?_
  try simp only [Act.put, zq1, zq2, zq3, zq4, zq5, zq6]
  clear q
  refine wpAnyH_done (by kernel_rfl) ?_ _
  have E60 := Lib.hid (D54.out.drew.below' hbx901)
  have E61 := Lib.hid (D55.out.drew.below' hbx901)
  have E62 := Lib.hid (D56.out.drew.below' hbx901)
  have E63 := Lib.hid (D57.out.drew.below' hbx901)
  have E64 := Lib.hid (D58.out.drew.below' hbx901)
  have hbel65 := (hbel59.drew).trans (hbx901.mono (hbel59.drew).size)
  clear hHeld hbx901 D54 D55 D56 D57 D58
  as_aux_lemma =>
  go_wp2_with (first | (refine ld83 rfl (.tmp 4) rfl G11 rfl (primL lm 1) E62.out LP.out.1 ?_) | (refine ld24 rfl (.tmp 8) rfl G53 rfl l0 E64.out L0.out ?_))
  refine (HOU.out _).mono ?_
  rintro e w66 ⟨rfl, hbw66⟩
  have C67 := Lib.hid (E60.out.below' hbw66)
  have C68 := Lib.hid (E61.out.below' hbw66)
  have C69 := Lib.hid (E62.out.below' hbw66)
  have C70 := Lib.hid (E63.out.below' hbw66)
  have C71 := Lib.hid (E64.out.below' hbw66)
  have hbel72 := hbel65.trans (hbw66.mono hbel65.size)
  clear E60 E61 E62 E63 E64 hbw66 hbel65
  go_wp2_with fail
  refine (HBI.out _).mono ?_
  rintro e w73 ⟨rfl, hbw73⟩
  have C74 := Lib.hid (C67.out.below' hbw73)
  have C75 := Lib.hid (C68.out.below' hbw73)
  have C76 := Lib.hid (C69.out.below' hbw73)
  have C77 := Lib.hid (C70.out.below' hbw73)
  have C78 := Lib.hid (C71.out.below' hbw73)
  have hbel79 := hbel72.trans (hbw73.mono hbel72.size)
  clear C67 C68 C69 C70 C71 hbw73 hbel72
  go_wp2_with (first | (refine ld24 rfl (.tmp 8) rfl G53 rfl l0 C78.out L0.out ?_) | (refine st24 rfl (.tmp 2) (.tmp 46) rfl (w.heap.size + 1) rfl l0 rfl L0.out (zeros 4) C75.out rfl ?_))
  refine bodyPost_ret (v := .tuple #[.agg (natsV .u64 l0).toArray, .bool true]) ?_ rfl ⟨rfl, below_setRow' hbel79 (by first | exact Nat.le_refl _ | omega) _⟩
  exact ret24x Try.results130 _ _ (w.heap.size + 1) l0 _ rfl rfl (C75.out.setRow _) L0.out
set_option maxRecDepth 100000 in
set_option maxHeartbeats 1600000 in
theorem Root_odd (a : Nat) (w : World) (hc : a < mP) (ho : OkR (ofF mP vP a)) (hs : sN (ofF mP vP a) % 2 = 1) :
    Calls Try.prog 130 #[.agg (natsV .u64 (wds 4 a)).toArray] w fun e w' => e = .returned (.tuple #[.agg (natsV .u64 (wds 4 (toF mP (rN (ofF mP vP a))))).toArray, .bool true]) ∧ Below w.heap.size w w' := by
  have H := fld_P
  have hm := H.lt
  have HPF := Lib.hid (show POk 1 (wds 4 a) 1 (wds 4 mP) 1 from pok_1 1 mP 1 vP a .p hc)
  have HSH := Lib.hid (fun w => Shr_any mP 2 w hm (by omega) (by omega))
  rw [show mP / 2 ^ (2 : Int).toNat = mP / 4 from rfl] at HSH
  have HAD := Lib.hid (fun w => Add_any (mP / 4) 1 w (by omega) (by decide))
  rw [← num_lit1, show mP / 4 + 1 = qP from rfl] at HAD
  obtain ⟨u, hu⟩ : ∃ u, u = ofF mP vP a := ⟨_, rfl⟩
  have hul : u < mP := by rw [hu]; exact ofF_lt H a
  have hau : toF mP u = a := by rw [hu]; exact H.to_of_lt hc
  have HPW := Lib.hid (fun w => power_any mP 1 vP a qP w H hc qP_lt)
  rw [← hu] at HPW ho hs ⊢
  have HSQ := Lib.hid (fun w => ptimes_any mP 1 vP (toF mP (u ^ qP)) (toF mP (u ^ qP)) w H (sq_fit H (toF_lt H _) (toF_lt H _)).1 (Nat.lt_trans (toF_lt H _) hm) (Nat.lt_trans (toF_lt H _) hm))
  rw [H.mul_to] at HSQ
  have QN := Lib.hid (fun w => neq24 (wds 4 (toF mP (u ^ qP * u ^ qP))) (wds 4 a) (wds_len 4 _) (wds_len 4 _) w)
  rw [wds_inj 4 _ a (Nat.lt_trans (toF_lt H _) hm) (Nat.lt_trans hc hm)] at QN
  rw [decide_eq_true (((okR_iff u hul).2 ho).trans hau), Bool.not_true] at QN
  have HOU := Lib.hid (fun w => out_any mP 1 vP (toF mP (u ^ qP)) w H (Nat.lt_trans (toF_lt H _) hm))
  rw [H.of_to, show u ^ qP % mP = sN u from rfl] at HOU
  have HBI := Lib.hid (fun w => Bit_any (sN u) 0 w (by omega) (by omega))
  rw [show bitZ (sN u) 0 = sN u % 2 by have := bitZ_in (sN u) 0 (by omega); simpa using this, hs] at HBI
  have HMI := Lib.hid (fun w => minus_any mP 1 0 (toF mP (u ^ qP)) w hm mP_pos (toF_lt H _))
  rw [← num_lit0, toF_sN u, toF_neg (sN u) (sN_lt u), ← toF_sN u] at HMI
  rw [show rN u = mP - sN u from if_pos hs]
  have LR := Lib.hid (wds_len 4 (toF mP (mP - sN u)))
  generalize wds 4 (toF mP (mP - sN u)) = lr at *
  generalize wds 4 (sN u) = ls at *
  have LQ := Lib.hid (wds_len 4 qP)
  have L0 := Lib.hid (wds_len 4 (toF mP (u ^ qP)))
  have LM := Lib.hid (wds_len 4 mP)
  have LP := Lib.hid (primL_ok (wds 4 mP) 1 (wds_len 4 mP))
  generalize wds 4 (toF mP (u ^ qP * u ^ qP)) = lsq at *
  generalize wds 4 (toF mP (u ^ qP)) = l0 at *
  generalize wds 4 qP = lq at *
  generalize wds 4 (mP / 4) = l4 at *
  generalize addC (mP / 4) 1 = cy at *
  generalize wds 4 mP = lm at *
  clear H hm hu hul hau hc ho hs
  have LA := Lib.hid (wds_len 4 a)
  generalize wds 4 a = la at *
  have i71 : (Try.prog.info? 83).map (·.size) = some (primL lm 1).length := by rw [info83, LP.out.1]
  have i24a : (Try.prog.info? 24).map (·.size) = some (natsV .u64 la).length := by rw [info24, natsV_length, LA.out]
  have i240 : (Try.prog.info? 24).map (·.size) = some (natsV .u64 l0).length := by rw [info24, natsV_length, L0.out]
  have B1 := Lib.hid ((Blk.new w 24 (natsV .u64 la)).alloc (.cells (natsV .u64 (zeros 4)).toArray 24))
  have B2 := Lib.hid (Blk.new2 w (.cells (natsV .u64 la).toArray 24) 24 (natsV .u64 (zeros 4)))
  have BEL := Lib.hid (((Below.refl w.heap.size w).alloc (Nat.le_refl _) (.cells (natsV .u64 la).toArray 24)).alloc (by simp) (.cells (natsV .u64 (zeros 4)).toArray 24))
  have V1 := Lib.hid (B1.out.alloc (.cells (natsV .u64 la).toArray 24))
  have V2 := Lib.hid (B2.out.alloc (.cells (natsV .u64 la).toArray 24))
  have belV := BEL.out.alloc (by simp; omega) (.cells (natsV .u64 la).toArray 24)
  go_enter Try.func130, Try.ntmps130
  go_wp2_with (first | (refine ld24 rfl (.tmp 1) rfl w.heap.size rfl la B1.out LA.out ?_) | (refine bs1 rfl (.tmp 10) rfl la rfl LA.out ?_))
  clear B1 B2
  refine (HPF.out _ _ (by simp)).mono ?_
  rintro e w1 ⟨rfl, hbw1⟩
  have C2 := Lib.hid (V1.out.below' hbw1)
  have C3 := Lib.hid (V2.out.below' hbw1)
  have hbel4 := belV.trans (hbw1.mono belV.size)
  clear V1 V2 hbw1 belV
  have Z6 := Lib.hid (Blk.new w1 83 ((primL (zeros 4) 0)))
  have hz7 := Lib.hid (below_setRow' (hbel4.alloc hbel4.size (.cells ((primL (zeros 4) 0)).toArray 83)) hbel4.size ((primL lm 1)).toArray)
  have Y8 := Lib.hid ((C2.out.alloc (.cells ((primL (zeros 4) 0)).toArray 83)).row ((primL lm 1)).toArray (Nat.ne_of_lt C2.out.lt))
  have Y9 := Lib.hid ((C3.out.alloc (.cells ((primL (zeros 4) 0)).toArray 83)).row ((primL lm 1)).toArray (Nat.ne_of_lt C3.out.lt))
  have Y10 := Lib.hid (Z6.out.setRow ((primL lm 1)))
  go_wp2_with (first | (refine st83 rfl (.tmp 4) (.tmp 13) rfl w1.heap.size rfl (primL lm 1) rfl LP.out (primL (zeros 4) 0) Z6.out rfl ?_; generalize hW : World.setRow _ _ _ = w5; have D12 := Lib.hid (show Blk w5 w.heap.size 24 (natsV .u64 la) from (by rw [← hW]; exact Y8.out)); have D13 := Lib.hid (show Blk w5 (w.heap.size + 1) 24 (natsV .u64 (zeros 4)) from (by rw [← hW]; exact Y9.out)); have D14 := Lib.hid (show Blk w5 w1.heap.size 83 ((primL lm 1)) from (by rw [← hW]; exact Y10.out)); have LE_D14 := (hbel4).size; have NE_D12 := Nat.ne_of_lt C2.out.lt; have NE_D13 := Nat.ne_of_lt C3.out.lt; have hbel15 : Below w.heap.size w w5 := (by rw [← hW]; exact hz7.out); clear hW Z6 hz7 C2 C3 Y8 Y9 Y10 hbel4; generalize w1.heap.size = G11 at *) | (refine ldm rfl (.tmp 19) rfl G11 rfl lm _ D14.out LM.out ?_))
  refine (HSH.out _).mono ?_
  rintro e w16 ⟨rfl, hbw16⟩
  have C17 := Lib.hid (D12.out.below' hbw16)
  have C18 := Lib.hid (D13.out.below' hbw16)
  have C19 := Lib.hid (D14.out.below' hbw16)
  have hbel20 := hbel15.trans (hbw16.mono hbel15.size)
  clear D12 D13 D14 hbw16 hbel15
  go_wp2_with fail
  refine (HAD.out _).mono ?_
  rintro e w21 ⟨rfl, hbw21⟩
  have C22 := Lib.hid (C17.out.below' hbw21)
  have C23 := Lib.hid (C18.out.below' hbw21)
  have C24 := Lib.hid (C19.out.below' hbw21)
  have hbel25 := hbel20.trans (hbw21.mono hbel20.size)
  clear C17 C18 C19 hbw21 hbel20
  have Z27 := Lib.hid (Blk.new w21 24 (natsV .u64 (zeros 4)))
  have hz28 := Lib.hid (below_setRow' (hbel25.alloc hbel25.size (.cells (natsV .u64 (zeros 4)).toArray 24)) hbel25.size (natsV .u64 lq).toArray)
  have Y29 := Lib.hid ((C22.out.alloc (.cells (natsV .u64 (zeros 4)).toArray 24)).row (natsV .u64 lq).toArray (Nat.ne_of_lt C22.out.lt))
  have Y30 := Lib.hid ((C23.out.alloc (.cells (natsV .u64 (zeros 4)).toArray 24)).row (natsV .u64 lq).toArray (Nat.ne_of_lt C23.out.lt))
  have Y31 := Lib.hid ((C24.out.alloc (.cells (natsV .u64 (zeros 4)).toArray 24)).row (natsV .u64 lq).toArray (Nat.ne_of_lt C24.out.lt))
  have Y32 := Lib.hid (Z27.out.setRow (natsV .u64 lq))
  go_wp2_with (first | (refine st24 rfl (.tmp 6) (.tmp 24) rfl w21.heap.size rfl lq rfl LQ.out (zeros 4) Z27.out rfl ?_; generalize hW : World.setRow _ _ _ = w26; have D34 := Lib.hid (show Blk w26 w.heap.size 24 (natsV .u64 la) from (by rw [← hW]; exact Y29.out)); have D35 := Lib.hid (show Blk w26 (w.heap.size + 1) 24 (natsV .u64 (zeros 4)) from (by rw [← hW]; exact Y30.out)); have D36 := Lib.hid (show Blk w26 G11 83 ((primL lm 1)) from (by rw [← hW]; exact Y31.out)); have D37 := Lib.hid (show Blk w26 w21.heap.size 24 (natsV .u64 lq) from (by rw [← hW]; exact Y32.out)); have LE_D37 := (hbel25).size; have NE_D34 := Nat.ne_of_lt C22.out.lt; have NE_D35 := Nat.ne_of_lt C23.out.lt; have NE_D36 := Nat.ne_of_lt C24.out.lt; have hbel38 : Below w.heap.size w w26 := (by rw [← hW]; exact hz28.out); clear hW Z27 hz28 C22 C23 C24 Y29 Y30 Y31 Y32 hbel25; generalize w21.heap.size = G33 at *) | (refine ld83 rfl (.tmp 4) rfl G11 rfl (primL lm 1) D36.out LP.out.1 ?_) | (refine ld24 rfl (.tmp 1) rfl w.heap.size rfl la D34.out LA.out ?_) | (refine ld24 rfl (.tmp 6) rfl G33 rfl lq D37.out LQ.out ?_))
  refine (HPW.out _).mono ?_
  rintro e w39 ⟨rfl, hbw39⟩
  have C40 := Lib.hid (D34.out.below' hbw39)
  have C41 := Lib.hid (D35.out.below' hbw39)
  have C42 := Lib.hid (D36.out.below' hbw39)
  have C43 := Lib.hid (D37.out.below' hbw39)
  have hbel44 := hbel38.trans (hbw39.mono hbel38.size)
  clear D34 D35 D36 D37 hbw39 hbel38
  have Z46 := Lib.hid (Blk.new w39 24 (natsV .u64 (zeros 4)))
  have hz47 := Lib.hid (below_setRow' (hbel44.alloc hbel44.size (.cells (natsV .u64 (zeros 4)).toArray 24)) hbel44.size (natsV .u64 l0).toArray)
  have Y48 := Lib.hid ((C40.out.alloc (.cells (natsV .u64 (zeros 4)).toArray 24)).row (natsV .u64 l0).toArray (Nat.ne_of_lt C40.out.lt))
  have Y49 := Lib.hid ((C41.out.alloc (.cells (natsV .u64 (zeros 4)).toArray 24)).row (natsV .u64 l0).toArray (Nat.ne_of_lt C41.out.lt))
  have Y50 := Lib.hid ((C42.out.alloc (.cells (natsV .u64 (zeros 4)).toArray 24)).row (natsV .u64 l0).toArray (Nat.ne_of_lt C42.out.lt))
  have Y51 := Lib.hid ((C43.out.alloc (.cells (natsV .u64 (zeros 4)).toArray 24)).row (natsV .u64 l0).toArray (Nat.ne_of_lt C43.out.lt))
  have Y52 := Lib.hid (Z46.out.setRow (natsV .u64 l0))
  go_wp2_with (first | (refine st24 rfl (.tmp 8) (.tmp 29) rfl w39.heap.size rfl l0 rfl L0.out (zeros 4) Z46.out rfl ?_; generalize hW : World.setRow _ _ _ = w45; have D54 := Lib.hid (show Blk w45 w.heap.size 24 (natsV .u64 la) from (by rw [← hW]; exact Y48.out)); have D55 := Lib.hid (show Blk w45 (w.heap.size + 1) 24 (natsV .u64 (zeros 4)) from (by rw [← hW]; exact Y49.out)); have D56 := Lib.hid (show Blk w45 G11 83 ((primL lm 1)) from (by rw [← hW]; exact Y50.out)); have D57 := Lib.hid (show Blk w45 G33 24 (natsV .u64 lq) from (by rw [← hW]; exact Y51.out)); have D58 := Lib.hid (show Blk w45 w39.heap.size 24 (natsV .u64 l0) from (by rw [← hW]; exact Y52.out)); have LE_D58 := (hbel44).size; have NE_D54 := Nat.ne_of_lt C40.out.lt; have NE_D55 := Nat.ne_of_lt C41.out.lt; have NE_D56 := Nat.ne_of_lt C42.out.lt; have NE_D57 := Nat.ne_of_lt C43.out.lt; have hbel59 : Below w.heap.size w w45 := (by rw [← hW]; exact hz47.out); clear hW Z46 hz47 C40 C41 C42 C43 Y48 Y49 Y50 Y51 Y52 hbel44; generalize w39.heap.size = G53 at *))
  as_aux_lemma =>
  refine wp_region_held_drew (S := (fun w' => w'.rangeAt G11 0 ((primL lm 1)) ∧ w'.rangeAt G53 0 (natsV .u64 l0) ∧ w'.rangeAt w.heap.size 0 (natsV .u64 la))) (by kernel_rfl) ⟨blk_rangeV D56.out.drew, blk_rangeV D58.out.drew, blk_rangeV D54.out.drew⟩ (fun hHeld => ?_)
  refine wpAnyH_take (i := 0) (oi := _) (v := _) rfl (by kernel_rfl) (by kernel_rfl) (by kernel_rfl) (fun _ _ _ h => h) (yieldsIf_load_mid (by rfl) _ _ rfl _ _ rfl _ _ (by intro w hSw; exact hSw.1) Try.underlying83 rfl i71) hHeld ?_
  try simp only [Act.put, zq1, zq2, zq3, zq4, zq5, zq6]
  refine wpAnyH_take (i := 1) (oi := _) (v := _) rfl (by kernel_rfl) (by kernel_rfl) (by kernel_rfl) (fun _ _ _ h => h) (yieldsIf_load_mid (by rfl) _ _ rfl _ _ rfl _ _ (by intro w hSw; exact hSw.2.1) Try.underlying24 rfl i240) hHeld ?_
  try simp only [Act.put, zq1, zq2, zq3, zq4, zq5, zq6]
  refine wpAnyH_take (i := 2) (oi := _) (v := _) rfl (by kernel_rfl) (by kernel_rfl) (by kernel_rfl) (fun _ _ _ h => h) (yieldsIf_load_mid (by rfl) _ _ rfl _ _ rfl _ _ (by intro w hSw; exact hSw.2.1) Try.underlying24 rfl i240) hHeld ?_
  try simp only [Act.put, zq1, zq2, zq3, zq4, zq5, zq6]
  refine wpAnyH_take (i := 4) (oi := _) (v := _) rfl (by kernel_rfl) (by kernel_rfl) (by kernel_rfl) (fun _ _ _ h => h) (yieldsIf_load_mid (by rfl) _ _ rfl _ _ rfl _ _ (by intro w hSw; exact hSw.2.2) Try.underlying24 rfl i24a) hHeld ?_
  try simp only [Act.put, zq1, zq2, zq3, zq4, zq5, zq6]
  refine wpAnyH_ready (rs := [3]) (by kernel_rfl) (by simp) ?_
  refine AllReadyH.cons (o := _) rfl (fun K hK => ?_) AllReadyH.nil
  go_simp
  go_at_call 62
  refine (HSQ.out _).mono ?_
  rintro e wx901 ⟨rfl, hbx901⟩
  refine hK.out _ _ ⟨range_keepF hHeld.1 hbx901, range_keepF hHeld.2.1 hbx901, range_keepF hHeld.2.2 hbx901⟩ (fun hHeld2 => ?_)
  clear hK K hHeld
  have hHeld := hHeld2
  clear hHeld2
  try simp only [Act.put, zq1, zq2, zq3, zq4, zq5, zq6]
  have q := QN.out
  refine wpAnyH_take (i := 5) (oi := _) (v := _) rfl (by kernel_rfl) (by kernel_rfl) (by kernel_rfl) (fun _ _ _ h => h) (Or.inl ⟨by rfl, by intro w hSw; (try dsimp only at hSw); go_simp; first | done | with_reducible rfl⟩) hHeld ?_
  try simp only [Act.put, zq1, zq2, zq3, zq4, zq5, zq6]
  clear q
  refine wpAnyH_done (by kernel_rfl) ?_ _
  have E60 := Lib.hid (D54.out.drew.below' hbx901)
  have E61 := Lib.hid (D55.out.drew.below' hbx901)
  have E62 := Lib.hid (D56.out.drew.below' hbx901)
  have E63 := Lib.hid (D57.out.drew.below' hbx901)
  have E64 := Lib.hid (D58.out.drew.below' hbx901)
  have hbel65 := (hbel59.drew).trans (hbx901.mono (hbel59.drew).size)
  clear hHeld hbx901 D54 D55 D56 D57 D58
  as_aux_lemma =>
  go_wp2_with (first | (refine ld83 rfl (.tmp 4) rfl G11 rfl (primL lm 1) E62.out LP.out.1 ?_) | (refine ld24 rfl (.tmp 8) rfl G53 rfl l0 E64.out L0.out ?_))
  refine (HOU.out _).mono ?_
  rintro e w66 ⟨rfl, hbw66⟩
  have C67 := Lib.hid (E60.out.below' hbw66)
  have C68 := Lib.hid (E61.out.below' hbw66)
  have C69 := Lib.hid (E62.out.below' hbw66)
  have C70 := Lib.hid (E63.out.below' hbw66)
  have C71 := Lib.hid (E64.out.below' hbw66)
  have hbel72 := hbel65.trans (hbw66.mono hbel65.size)
  clear E60 E61 E62 E63 E64 hbw66 hbel65
  go_wp2_with fail
  refine (HBI.out _).mono ?_
  rintro e w73 ⟨rfl, hbw73⟩
  have C74 := Lib.hid (C67.out.below' hbw73)
  have C75 := Lib.hid (C68.out.below' hbw73)
  have C76 := Lib.hid (C69.out.below' hbw73)
  have C77 := Lib.hid (C70.out.below' hbw73)
  have C78 := Lib.hid (C71.out.below' hbw73)
  have hbel79 := hbel72.trans (hbw73.mono hbel72.size)
  clear C67 C68 C69 C70 C71 hbw73 hbel72
  go_wp2_with (first | (refine ld83 rfl (.tmp 4) rfl G11 rfl (primL lm 1) C76.out LP.out.1 ?_) | (refine ld24 rfl (.tmp 8) rfl G53 rfl l0 C78.out L0.out ?_))
  refine (HMI.out _).mono ?_
  rintro e w80 ⟨rfl, hbw80⟩
  have C81 := Lib.hid (C74.out.below' hbw80)
  have C82 := Lib.hid (C75.out.below' hbw80)
  have C83 := Lib.hid (C76.out.below' hbw80)
  have C84 := Lib.hid (C77.out.below' hbw80)
  have C85 := Lib.hid (C78.out.below' hbw80)
  have hbel86 := hbel79.trans (hbw80.mono hbel79.size)
  clear C74 C75 C76 C77 C78 hbw80 hbel79
  have hz88 := Lib.hid (below_setRow' hbel86 (show w.heap.size ≤ G53 by first | exact Nat.le_refl _ | omega) (natsV .u64 lr).toArray)
  have Y89 := Lib.hid (C81.out.row (natsV .u64 lr).toArray (show w.heap.size ≠ G53 by first | omega | assumption | exact Ne.symm (by assumption)))
  have Y90 := Lib.hid (C82.out.row (natsV .u64 lr).toArray (show (w.heap.size + 1) ≠ G53 by first | omega | assumption | exact Ne.symm (by assumption)))
  have Y91 := Lib.hid (C83.out.row (natsV .u64 lr).toArray (show G11 ≠ G53 by first | omega | assumption | exact Ne.symm (by assumption)))
  have Y92 := Lib.hid (C84.out.row (natsV .u64 lr).toArray (show G33 ≠ G53 by first | omega | assumption | exact Ne.symm (by assumption)))
  have Y93 := Lib.hid (C85.out.setRow (natsV .u64 lr))
  go_wp2_with (first | (refine st24 rfl (.tmp 8) (.tmp 45) rfl G53 rfl lr rfl LR.out l0 C85.out L0.out ?_; generalize hW : World.setRow _ _ _ = w87; have D94 := Lib.hid (show Blk w87 w.heap.size 24 (natsV .u64 la) from (by rw [← hW]; exact Y89.out)); have D95 := Lib.hid (show Blk w87 (w.heap.size + 1) 24 (natsV .u64 (zeros 4)) from (by rw [← hW]; exact Y90.out)); have D96 := Lib.hid (show Blk w87 G11 83 ((primL lm 1)) from (by rw [← hW]; exact Y91.out)); have D97 := Lib.hid (show Blk w87 G33 24 (natsV .u64 lq) from (by rw [← hW]; exact Y92.out)); have D98 := Lib.hid (show Blk w87 G53 24 (natsV .u64 lr) from (by rw [← hW]; exact Y93.out)); have hbel99 : Below w.heap.size w w87 := (by rw [← hW]; exact hz88.out); clear hW hz88 C81 C82 C83 C84 C85 Y89 Y90 Y91 Y92 Y93 hbel86) | (refine ld24 rfl (.tmp 8) rfl G53 rfl lr D98.out LR.out ?_) | (refine st24 rfl (.tmp 2) (.tmp 46) rfl (w.heap.size + 1) rfl lr rfl LR.out (zeros 4) D95.out rfl ?_))
  refine bodyPost_ret (v := .tuple #[.agg (natsV .u64 lr).toArray, .bool true]) ?_ rfl ⟨rfl, below_setRow' hbel99 (by first | exact Nat.le_refl _ | omega) _⟩
  exact ret24x Try.results130 _ _ (w.heap.size + 1) lr _ rfl rfl (D95.out.setRow _) LR.out
set_option maxRecDepth 100000 in
set_option maxHeartbeats 1600000 in
theorem DRoot_none (u : Nat) (w : World) (hu : u < mP) (ho : ¬ OkR u) :
    Calls Try.prog 79 #[.agg (natsV .u64 (wds 4 u)).toArray] w fun e w' => e = .returned (.tuple #[.agg (natsV .u64 (zeros 4)).toArray, .bool false]) ∧ Below w.heap.size w w' := by
  have hm := fld_P.lt
  have hgt := fld_P.gt
  have HP := Lib.hid DP_any
  have HPW := Lib.hid (fun w => Pow5_any u qP mP w (Nat.lt_trans hu hm) qP_lt hm hgt)
  rw [show u ^ qP % mP = sN u from rfl] at HPW
  have HSQ := Lib.hid (fun w => Mul5_any (sN u) (sN u) mP w (Nat.lt_trans (sN_lt u) hm) (Nat.lt_trans (sN_lt u) hm) hm hgt)
  have QN := Lib.hid (fun w => neq24 (wds 4 (sN u * sN u % mP)) (wds 4 u) (wds_len 4 _) (wds_len 4 _) w)
  rw [wds_inj 4 _ u (Nat.lt_trans (Nat.mod_lt _ mP_pos) hm) (Nat.lt_trans hu hm)] at QN
  have LIT := Lib.hid lit_Q
  rw [decide_eq_false (show ¬ (sN u * sN u % mP = u) from ho), Bool.not_false] at QN
  have LQ := Lib.hid (wds_len 4 qP)
  have LS := Lib.hid (wds_len 4 (sN u))
  have LM := Lib.hid (wds_len 4 mP)
  have LU := Lib.hid (wds_len 4 u)
  generalize wds 4 (sN u * sN u % mP) = lsq at *
  generalize wds 4 (sN u) = ls at *
  generalize wds 4 qP = lq at *
  generalize wds 4 mP = lm at *
  generalize wds 4 u = lu at *
  clear hm hgt hu ho
  have i24u : (Try.prog.info? 24).map (·.size) = some (natsV .u64 lu).length := by rw [info24, natsV_length, LU.out]
  have i24s : (Try.prog.info? 24).map (·.size) = some (natsV .u64 ls).length := by rw [info24, natsV_length, LS.out]
  have i24m : (Try.prog.info? 24).map (·.size) = some (natsV .u64 lm).length := by rw [info24, natsV_length, LM.out]
  have B1 := Lib.hid ((Blk.new w 24 (natsV .u64 lu)).alloc (.cells (natsV .u64 (zeros 4)).toArray 24))
  have B2 := Lib.hid (Blk.new2 w (.cells (natsV .u64 lu).toArray 24) 24 (natsV .u64 (zeros 4)))
  have BEL := Lib.hid (((Below.refl w.heap.size w).alloc (Nat.le_refl _) (.cells (natsV .u64 lu).toArray 24)).alloc (by simp) (.cells (natsV .u64 (zeros 4)).toArray 24))
  go_enter Try.func79, Try.ntmps79
  go_wp2_with fail
  refine (HP.out _).mono ?_
  rintro e w1 ⟨rfl, hbw1⟩
  have C2 := Lib.hid (B1.out.below' hbw1)
  have C3 := Lib.hid (B2.out.below' hbw1)
  have hbel4 := BEL.out.trans (hbw1.mono BEL.out.size)
  clear B1 B2 hbw1
  have Z6 := Lib.hid (Blk.new w1 24 (natsV .u64 (zeros 4)))
  have hz7 := Lib.hid (below_setRow' (hbel4.alloc hbel4.size (.cells (natsV .u64 (zeros 4)).toArray 24)) hbel4.size (natsV .u64 lm).toArray)
  have Y8 := Lib.hid ((C2.out.alloc (.cells (natsV .u64 (zeros 4)).toArray 24)).row (natsV .u64 lm).toArray (Nat.ne_of_lt C2.out.lt))
  have Y9 := Lib.hid ((C3.out.alloc (.cells (natsV .u64 (zeros 4)).toArray 24)).row (natsV .u64 lm).toArray (Nat.ne_of_lt C3.out.lt))
  have Y10 := Lib.hid (Z6.out.setRow (natsV .u64 lm))
  go_upto_region 2 with (first | (refine st24 rfl (.tmp 4) (.tmp 7) rfl w1.heap.size rfl lm rfl LM.out (zeros 4) Z6.out rfl ?_; generalize hW : World.setRow _ _ _ = w5; have D12 := Lib.hid (show Blk w5 w.heap.size 24 (natsV .u64 lu) from (by rw [← hW]; exact Y8.out)); have D13 := Lib.hid (show Blk w5 (w.heap.size + 1) 24 (natsV .u64 (zeros 4)) from (by rw [← hW]; exact Y9.out)); have D14 := Lib.hid (show Blk w5 w1.heap.size 24 (natsV .u64 lm) from (by rw [← hW]; exact Y10.out)); have LE_D14 := (hbel4).size; have NE_D12 := Nat.ne_of_lt C2.out.lt; have NE_D13 := Nat.ne_of_lt C3.out.lt; have hbel15 : Below w.heap.size w w5 := (by rw [← hW]; exact hz7.out); clear hW Z6 hz7 C2 C3 Y8 Y9 Y10 hbel4; generalize w1.heap.size = G11 at *))
  have Z17 := Lib.hid (Blk.new w5 24 (natsV .u64 (zeros 4)))
  have hz18 := Lib.hid (below_setRow' (hbel15.alloc hbel15.size (.cells (natsV .u64 (zeros 4)).toArray 24)) hbel15.size (natsV .u64 lq).toArray)
  have Y19 := Lib.hid ((D12.out.alloc (.cells (natsV .u64 (zeros 4)).toArray 24)).row (natsV .u64 lq).toArray (Nat.ne_of_lt D12.out.lt))
  have Y20 := Lib.hid ((D13.out.alloc (.cells (natsV .u64 (zeros 4)).toArray 24)).row (natsV .u64 lq).toArray (Nat.ne_of_lt D13.out.lt))
  have Y21 := Lib.hid ((D14.out.alloc (.cells (natsV .u64 (zeros 4)).toArray 24)).row (natsV .u64 lq).toArray (Nat.ne_of_lt D14.out.lt))
  have Y22 := Lib.hid (Z17.out.setRow (natsV .u64 lq))
  go_wp2_with (first | (refine st24 rfl (.tmp 5) (.tmp 8) rfl w5.heap.size rfl lq LIT.out LQ.out (zeros 4) Z17.out rfl ?_; generalize hW : World.setRow _ _ _ = w16; have D24 := Lib.hid (show Blk w16 w.heap.size 24 (natsV .u64 lu) from (by rw [← hW]; exact Y19.out)); have D25 := Lib.hid (show Blk w16 (w.heap.size + 1) 24 (natsV .u64 (zeros 4)) from (by rw [← hW]; exact Y20.out)); have D26 := Lib.hid (show Blk w16 G11 24 (natsV .u64 lm) from (by rw [← hW]; exact Y21.out)); have D27 := Lib.hid (show Blk w16 w5.heap.size 24 (natsV .u64 lq) from (by rw [← hW]; exact Y22.out)); have LE_D27 := (hbel15).size; have NE_D24 := Nat.ne_of_lt D12.out.lt; have NE_D25 := Nat.ne_of_lt D13.out.lt; have NE_D26 := Nat.ne_of_lt D14.out.lt; have hbel28 : Below w.heap.size w w16 := (by rw [← hW]; exact hz18.out); clear hW Z17 hz18 D12 D13 D14 Y19 Y20 Y21 Y22 hbel15; generalize w5.heap.size = G23 at *) | (refine ld24 rfl (.tmp 1) rfl w.heap.size rfl lu D24.out LU.out ?_) | (refine ld24 rfl (.tmp 5) rfl G23 rfl lq D27.out LQ.out ?_) | (refine ld24 rfl (.tmp 4) rfl G11 rfl lm D26.out LM.out ?_))
  refine (HPW.out _).mono ?_
  rintro e w29 ⟨rfl, hbw29⟩
  have C30 := Lib.hid (D24.out.below' hbw29)
  have C31 := Lib.hid (D25.out.below' hbw29)
  have C32 := Lib.hid (D26.out.below' hbw29)
  have C33 := Lib.hid (D27.out.below' hbw29)
  have hbel34 := hbel28.trans (hbw29.mono hbel28.size)
  clear D24 D25 D26 D27 hbw29 hbel28
  have Z36 := Lib.hid (Blk.new w29 24 (natsV .u64 (zeros 4)))
  have hz37 := Lib.hid (below_setRow' (hbel34.alloc hbel34.size (.cells (natsV .u64 (zeros 4)).toArray 24)) hbel34.size (natsV .u64 ls).toArray)
  have Y38 := Lib.hid ((C30.out.alloc (.cells (natsV .u64 (zeros 4)).toArray 24)).row (natsV .u64 ls).toArray (Nat.ne_of_lt C30.out.lt))
  have Y39 := Lib.hid ((C31.out.alloc (.cells (natsV .u64 (zeros 4)).toArray 24)).row (natsV .u64 ls).toArray (Nat.ne_of_lt C31.out.lt))
  have Y40 := Lib.hid ((C32.out.alloc (.cells (natsV .u64 (zeros 4)).toArray 24)).row (natsV .u64 ls).toArray (Nat.ne_of_lt C32.out.lt))
  have Y41 := Lib.hid ((C33.out.alloc (.cells (natsV .u64 (zeros 4)).toArray 24)).row (natsV .u64 ls).toArray (Nat.ne_of_lt C33.out.lt))
  have Y42 := Lib.hid (Z36.out.setRow (natsV .u64 ls))
  go_wp2_with (first | (refine st24 rfl (.tmp 6) (.tmp 12) rfl w29.heap.size rfl ls rfl LS.out (zeros 4) Z36.out rfl ?_; generalize hW : World.setRow _ _ _ = w35; have D44 := Lib.hid (show Blk w35 w.heap.size 24 (natsV .u64 lu) from (by rw [← hW]; exact Y38.out)); have D45 := Lib.hid (show Blk w35 (w.heap.size + 1) 24 (natsV .u64 (zeros 4)) from (by rw [← hW]; exact Y39.out)); have D46 := Lib.hid (show Blk w35 G11 24 (natsV .u64 lm) from (by rw [← hW]; exact Y40.out)); have D47 := Lib.hid (show Blk w35 G23 24 (natsV .u64 lq) from (by rw [← hW]; exact Y41.out)); have D48 := Lib.hid (show Blk w35 w29.heap.size 24 (natsV .u64 ls) from (by rw [← hW]; exact Y42.out)); have LE_D48 := (hbel34).size; have NE_D44 := Nat.ne_of_lt C30.out.lt; have NE_D45 := Nat.ne_of_lt C31.out.lt; have NE_D46 := Nat.ne_of_lt C32.out.lt; have NE_D47 := Nat.ne_of_lt C33.out.lt; have hbel49 : Below w.heap.size w w35 := (by rw [← hW]; exact hz37.out); clear hW Z36 hz37 C30 C31 C32 C33 Y38 Y39 Y40 Y41 Y42 hbel34; generalize w29.heap.size = G43 at *))
  as_aux_lemma =>
  refine wp_region_held_drew (S := (fun w' => w'.rangeAt G43 0 (natsV .u64 ls) ∧ w'.rangeAt G11 0 (natsV .u64 lm) ∧ w'.rangeAt w.heap.size 0 (natsV .u64 lu))) (by kernel_rfl) ⟨blk_rangeV D48.out.drew, blk_rangeV D46.out.drew, blk_rangeV D44.out.drew⟩ (fun hHeld => ?_)
  refine wpAnyH_take (i := 0) (oi := _) (v := _) rfl (by kernel_rfl) (by kernel_rfl) (by kernel_rfl) (fun _ _ _ h => h) (yieldsIf_load_mid (by rfl) _ _ rfl _ _ rfl _ _ (by intro w hSw; exact hSw.1) Try.underlying24 rfl i24s) hHeld ?_
  try simp only [Act.put, zq1, zq2, zq3, zq4, zq5, zq6]
  refine wpAnyH_take (i := 1) (oi := _) (v := _) rfl (by kernel_rfl) (by kernel_rfl) (by kernel_rfl) (fun _ _ _ h => h) (yieldsIf_load_mid (by rfl) _ _ rfl _ _ rfl _ _ (by intro w hSw; exact hSw.1) Try.underlying24 rfl i24s) hHeld ?_
  try simp only [Act.put, zq1, zq2, zq3, zq4, zq5, zq6]
  refine wpAnyH_take (i := 2) (oi := _) (v := _) rfl (by kernel_rfl) (by kernel_rfl) (by kernel_rfl) (fun _ _ _ h => h) (yieldsIf_load_mid (by rfl) _ _ rfl _ _ rfl _ _ (by intro w hSw; exact hSw.2.1) Try.underlying24 rfl i24m) hHeld ?_
  try simp only [Act.put, zq1, zq2, zq3, zq4, zq5, zq6]
  refine wpAnyH_take (i := 4) (oi := _) (v := _) rfl (by kernel_rfl) (by kernel_rfl) (by kernel_rfl) (fun _ _ _ h => h) (yieldsIf_load_mid (by rfl) _ _ rfl _ _ rfl _ _ (by intro w hSw; exact hSw.2.2) Try.underlying24 rfl i24u) hHeld ?_
  try simp only [Act.put, zq1, zq2, zq3, zq4, zq5, zq6]
  refine wpAnyH_ready (rs := [3]) (by kernel_rfl) (by simp) ?_
  refine AllReadyH.cons (o := _) rfl (fun K hK => ?_) AllReadyH.nil
  go_simp
  go_at_call 65
  refine (HSQ.out _).mono ?_
  rintro e wx901 ⟨rfl, hbx901⟩
  refine hK.out _ _ ⟨range_keepF hHeld.1 hbx901, range_keepF hHeld.2.1 hbx901, range_keepF hHeld.2.2 hbx901⟩ (fun hHeld2 => ?_)
  clear hK K hHeld
  have hHeld := hHeld2
  clear hHeld2
  try simp only [Act.put, zq1, zq2, zq3, zq4, zq5, zq6]
  have q := QN.out
  refine wpAnyH_take (i := 5) (oi := _) (v := _) rfl (by kernel_rfl) (by kernel_rfl) (by kernel_rfl) (fun _ _ _ h => h) (Or.inl ⟨by rfl, by intro w hSw; (try dsimp only at hSw); go_simp; first | done | with_reducible rfl⟩) hHeld ?_
  try simp only [Act.put, zq1, zq2, zq3, zq4, zq5, zq6]
  clear q
  refine wpAnyH_done (by kernel_rfl) ?_ _
  have E50 := Lib.hid (D44.out.drew.below' hbx901)
  have E51 := Lib.hid (D45.out.drew.below' hbx901)
  have E52 := Lib.hid (D46.out.drew.below' hbx901)
  have E53 := Lib.hid (D47.out.drew.below' hbx901)
  have E54 := Lib.hid (D48.out.drew.below' hbx901)
  have hbel55 := (hbel49.drew).trans (hbx901.mono (hbel49.drew).size)
  clear hHeld hbx901 D44 D45 D46 D47 D48
  as_aux_lemma =>
  go_wp2_with (first | (refine st24 rfl (.tmp 2) (.tmp 19) rfl (w.heap.size + 1) rfl (zeros 4) (num_lit0.trans (by rw [num_zero])) rfl (zeros 4) E51.out rfl ?_))
  refine bodyPost_ret (v := .tuple #[.agg (natsV .u64 (zeros 4)).toArray, .bool false]) ?_ rfl ⟨rfl, below_setRow' hbel55 (by first | exact Nat.le_refl _ | omega) _⟩
  exact ret24x Try.results79 _ _ (w.heap.size + 1) (zeros 4) _ rfl rfl (E51.out.setRow _) rfl
set_option maxRecDepth 100000 in
set_option maxHeartbeats 1600000 in
theorem DRoot_even (u : Nat) (w : World) (hu : u < mP) (ho : OkR u) (hs : sN u % 2 = 0) :
    Calls Try.prog 79 #[.agg (natsV .u64 (wds 4 u)).toArray] w fun e w' => e = .returned (.tuple #[.agg (natsV .u64 (wds 4 (rN u))).toArray, .bool true]) ∧ Below w.heap.size w w' := by
  have hm := fld_P.lt
  have hgt := fld_P.gt
  have HP := Lib.hid DP_any
  have HPW := Lib.hid (fun w => Pow5_any u qP mP w (Nat.lt_trans hu hm) qP_lt hm hgt)
  rw [show u ^ qP % mP = sN u from rfl] at HPW
  have HSQ := Lib.hid (fun w => Mul5_any (sN u) (sN u) mP w (Nat.lt_trans (sN_lt u) hm) (Nat.lt_trans (sN_lt u) hm) hm hgt)
  have QN := Lib.hid (fun w => neq24 (wds 4 (sN u * sN u % mP)) (wds 4 u) (wds_len 4 _) (wds_len 4 _) w)
  rw [wds_inj 4 _ u (Nat.lt_trans (Nat.mod_lt _ mP_pos) hm) (Nat.lt_trans hu hm)] at QN
  have LIT := Lib.hid lit_Q
  rw [decide_eq_true (show sN u * sN u % mP = u from ho), Bool.not_true] at QN
  have e0 := dgt0_odd (sN u)
  rw [hs] at e0
  have S0 := wds_at 4 (sN u) 0 (by omega)
  generalize dgt (2 ^ 64) (sN u) 0 = d0 at *
  rw [show rN u = sN u from if_neg (by omega)]
  have hi0 : (d0 : Int) % 2 = 0 := by omega
  have LQ := Lib.hid (wds_len 4 qP)
  have LS := Lib.hid (wds_len 4 (sN u))
  have LM := Lib.hid (wds_len 4 mP)
  have LU := Lib.hid (wds_len 4 u)
  generalize wds 4 (sN u * sN u % mP) = lsq at *
  generalize wds 4 (sN u) = ls at *
  generalize wds 4 qP = lq at *
  generalize wds 4 mP = lm at *
  generalize wds 4 u = lu at *
  clear hm hgt hu ho hs
  have i24u : (Try.prog.info? 24).map (·.size) = some (natsV .u64 lu).length := by rw [info24, natsV_length, LU.out]
  have i24s : (Try.prog.info? 24).map (·.size) = some (natsV .u64 ls).length := by rw [info24, natsV_length, LS.out]
  have i24m : (Try.prog.info? 24).map (·.size) = some (natsV .u64 lm).length := by rw [info24, natsV_length, LM.out]
  have B1 := Lib.hid ((Blk.new w 24 (natsV .u64 lu)).alloc (.cells (natsV .u64 (zeros 4)).toArray 24))
  have B2 := Lib.hid (Blk.new2 w (.cells (natsV .u64 lu).toArray 24) 24 (natsV .u64 (zeros 4)))
  have BEL := Lib.hid (((Below.refl w.heap.size w).alloc (Nat.le_refl _) (.cells (natsV .u64 lu).toArray 24)).alloc (by simp) (.cells (natsV .u64 (zeros 4)).toArray 24))
  go_enter Try.func79, Try.ntmps79
  go_wp2_with fail
  refine (HP.out _).mono ?_
  rintro e w1 ⟨rfl, hbw1⟩
  have C2 := Lib.hid (B1.out.below' hbw1)
  have C3 := Lib.hid (B2.out.below' hbw1)
  have hbel4 := BEL.out.trans (hbw1.mono BEL.out.size)
  clear B1 B2 hbw1
  have Z6 := Lib.hid (Blk.new w1 24 (natsV .u64 (zeros 4)))
  have hz7 := Lib.hid (below_setRow' (hbel4.alloc hbel4.size (.cells (natsV .u64 (zeros 4)).toArray 24)) hbel4.size (natsV .u64 lm).toArray)
  have Y8 := Lib.hid ((C2.out.alloc (.cells (natsV .u64 (zeros 4)).toArray 24)).row (natsV .u64 lm).toArray (Nat.ne_of_lt C2.out.lt))
  have Y9 := Lib.hid ((C3.out.alloc (.cells (natsV .u64 (zeros 4)).toArray 24)).row (natsV .u64 lm).toArray (Nat.ne_of_lt C3.out.lt))
  have Y10 := Lib.hid (Z6.out.setRow (natsV .u64 lm))
  go_upto_region 2 with (first | (refine st24 rfl (.tmp 4) (.tmp 7) rfl w1.heap.size rfl lm rfl LM.out (zeros 4) Z6.out rfl ?_; generalize hW : World.setRow _ _ _ = w5; have D12 := Lib.hid (show Blk w5 w.heap.size 24 (natsV .u64 lu) from (by rw [← hW]; exact Y8.out)); have D13 := Lib.hid (show Blk w5 (w.heap.size + 1) 24 (natsV .u64 (zeros 4)) from (by rw [← hW]; exact Y9.out)); have D14 := Lib.hid (show Blk w5 w1.heap.size 24 (natsV .u64 lm) from (by rw [← hW]; exact Y10.out)); have LE_D14 := (hbel4).size; have NE_D12 := Nat.ne_of_lt C2.out.lt; have NE_D13 := Nat.ne_of_lt C3.out.lt; have hbel15 : Below w.heap.size w w5 := (by rw [← hW]; exact hz7.out); clear hW Z6 hz7 C2 C3 Y8 Y9 Y10 hbel4; generalize w1.heap.size = G11 at *))
  have Z17 := Lib.hid (Blk.new w5 24 (natsV .u64 (zeros 4)))
  have hz18 := Lib.hid (below_setRow' (hbel15.alloc hbel15.size (.cells (natsV .u64 (zeros 4)).toArray 24)) hbel15.size (natsV .u64 lq).toArray)
  have Y19 := Lib.hid ((D12.out.alloc (.cells (natsV .u64 (zeros 4)).toArray 24)).row (natsV .u64 lq).toArray (Nat.ne_of_lt D12.out.lt))
  have Y20 := Lib.hid ((D13.out.alloc (.cells (natsV .u64 (zeros 4)).toArray 24)).row (natsV .u64 lq).toArray (Nat.ne_of_lt D13.out.lt))
  have Y21 := Lib.hid ((D14.out.alloc (.cells (natsV .u64 (zeros 4)).toArray 24)).row (natsV .u64 lq).toArray (Nat.ne_of_lt D14.out.lt))
  have Y22 := Lib.hid (Z17.out.setRow (natsV .u64 lq))
  go_wp2_with (first | (refine st24 rfl (.tmp 5) (.tmp 8) rfl w5.heap.size rfl lq LIT.out LQ.out (zeros 4) Z17.out rfl ?_; generalize hW : World.setRow _ _ _ = w16; have D24 := Lib.hid (show Blk w16 w.heap.size 24 (natsV .u64 lu) from (by rw [← hW]; exact Y19.out)); have D25 := Lib.hid (show Blk w16 (w.heap.size + 1) 24 (natsV .u64 (zeros 4)) from (by rw [← hW]; exact Y20.out)); have D26 := Lib.hid (show Blk w16 G11 24 (natsV .u64 lm) from (by rw [← hW]; exact Y21.out)); have D27 := Lib.hid (show Blk w16 w5.heap.size 24 (natsV .u64 lq) from (by rw [← hW]; exact Y22.out)); have LE_D27 := (hbel15).size; have NE_D24 := Nat.ne_of_lt D12.out.lt; have NE_D25 := Nat.ne_of_lt D13.out.lt; have NE_D26 := Nat.ne_of_lt D14.out.lt; have hbel28 : Below w.heap.size w w16 := (by rw [← hW]; exact hz18.out); clear hW Z17 hz18 D12 D13 D14 Y19 Y20 Y21 Y22 hbel15; generalize w5.heap.size = G23 at *) | (refine ld24 rfl (.tmp 1) rfl w.heap.size rfl lu D24.out LU.out ?_) | (refine ld24 rfl (.tmp 5) rfl G23 rfl lq D27.out LQ.out ?_) | (refine ld24 rfl (.tmp 4) rfl G11 rfl lm D26.out LM.out ?_))
  refine (HPW.out _).mono ?_
  rintro e w29 ⟨rfl, hbw29⟩
  have C30 := Lib.hid (D24.out.below' hbw29)
  have C31 := Lib.hid (D25.out.below' hbw29)
  have C32 := Lib.hid (D26.out.below' hbw29)
  have C33 := Lib.hid (D27.out.below' hbw29)
  have hbel34 := hbel28.trans (hbw29.mono hbel28.size)
  clear D24 D25 D26 D27 hbw29 hbel28
  have Z36 := Lib.hid (Blk.new w29 24 (natsV .u64 (zeros 4)))
  have hz37 := Lib.hid (below_setRow' (hbel34.alloc hbel34.size (.cells (natsV .u64 (zeros 4)).toArray 24)) hbel34.size (natsV .u64 ls).toArray)
  have Y38 := Lib.hid ((C30.out.alloc (.cells (natsV .u64 (zeros 4)).toArray 24)).row (natsV .u64 ls).toArray (Nat.ne_of_lt C30.out.lt))
  have Y39 := Lib.hid ((C31.out.alloc (.cells (natsV .u64 (zeros 4)).toArray 24)).row (natsV .u64 ls).toArray (Nat.ne_of_lt C31.out.lt))
  have Y40 := Lib.hid ((C32.out.alloc (.cells (natsV .u64 (zeros 4)).toArray 24)).row (natsV .u64 ls).toArray (Nat.ne_of_lt C32.out.lt))
  have Y41 := Lib.hid ((C33.out.alloc (.cells (natsV .u64 (zeros 4)).toArray 24)).row (natsV .u64 ls).toArray (Nat.ne_of_lt C33.out.lt))
  have Y42 := Lib.hid (Z36.out.setRow (natsV .u64 ls))
  go_wp2_with (first | (refine st24 rfl (.tmp 6) (.tmp 12) rfl w29.heap.size rfl ls rfl LS.out (zeros 4) Z36.out rfl ?_; generalize hW : World.setRow _ _ _ = w35; have D44 := Lib.hid (show Blk w35 w.heap.size 24 (natsV .u64 lu) from (by rw [← hW]; exact Y38.out)); have D45 := Lib.hid (show Blk w35 (w.heap.size + 1) 24 (natsV .u64 (zeros 4)) from (by rw [← hW]; exact Y39.out)); have D46 := Lib.hid (show Blk w35 G11 24 (natsV .u64 lm) from (by rw [← hW]; exact Y40.out)); have D47 := Lib.hid (show Blk w35 G23 24 (natsV .u64 lq) from (by rw [← hW]; exact Y41.out)); have D48 := Lib.hid (show Blk w35 w29.heap.size 24 (natsV .u64 ls) from (by rw [← hW]; exact Y42.out)); have LE_D48 := (hbel34).size; have NE_D44 := Nat.ne_of_lt C30.out.lt; have NE_D45 := Nat.ne_of_lt C31.out.lt; have NE_D46 := Nat.ne_of_lt C32.out.lt; have NE_D47 := Nat.ne_of_lt C33.out.lt; have hbel49 : Below w.heap.size w w35 := (by rw [← hW]; exact hz37.out); clear hW Z36 hz37 C30 C31 C32 C33 Y38 Y39 Y40 Y41 Y42 hbel34; generalize w29.heap.size = G43 at *))
  as_aux_lemma =>
  refine wp_region_held_drew (S := (fun w' => w'.rangeAt G43 0 (natsV .u64 ls) ∧ w'.rangeAt G11 0 (natsV .u64 lm) ∧ w'.rangeAt w.heap.size 0 (natsV .u64 lu))) (by kernel_rfl) ⟨blk_rangeV D48.out.drew, blk_rangeV D46.out.drew, blk_rangeV D44.out.drew⟩ (fun hHeld => ?_)
  refine wpAnyH_take (i := 0) (oi := _) (v := _) rfl (by kernel_rfl) (by kernel_rfl) (by kernel_rfl) (fun _ _ _ h => h) (yieldsIf_load_mid (by rfl) _ _ rfl _ _ rfl _ _ (by intro w hSw; exact hSw.1) Try.underlying24 rfl i24s) hHeld ?_
  try simp only [Act.put, zq1, zq2, zq3, zq4, zq5, zq6]
  refine wpAnyH_take (i := 1) (oi := _) (v := _) rfl (by kernel_rfl) (by kernel_rfl) (by kernel_rfl) (fun _ _ _ h => h) (yieldsIf_load_mid (by rfl) _ _ rfl _ _ rfl _ _ (by intro w hSw; exact hSw.1) Try.underlying24 rfl i24s) hHeld ?_
  try simp only [Act.put, zq1, zq2, zq3, zq4, zq5, zq6]
  refine wpAnyH_take (i := 2) (oi := _) (v := _) rfl (by kernel_rfl) (by kernel_rfl) (by kernel_rfl) (fun _ _ _ h => h) (yieldsIf_load_mid (by rfl) _ _ rfl _ _ rfl _ _ (by intro w hSw; exact hSw.2.1) Try.underlying24 rfl i24m) hHeld ?_
  try simp only [Act.put, zq1, zq2, zq3, zq4, zq5, zq6]
  refine wpAnyH_take (i := 4) (oi := _) (v := _) rfl (by kernel_rfl) (by kernel_rfl) (by kernel_rfl) (fun _ _ _ h => h) (yieldsIf_load_mid (by rfl) _ _ rfl _ _ rfl _ _ (by intro w hSw; exact hSw.2.2) Try.underlying24 rfl i24u) hHeld ?_
  try simp only [Act.put, zq1, zq2, zq3, zq4, zq5, zq6]
  refine wpAnyH_ready (rs := [3]) (by kernel_rfl) (by simp) ?_
  refine AllReadyH.cons (o := _) rfl (fun K hK => ?_) AllReadyH.nil
  go_simp
  go_at_call 65
  refine (HSQ.out _).mono ?_
  rintro e wx901 ⟨rfl, hbx901⟩
  refine hK.out _ _ ⟨range_keepF hHeld.1 hbx901, range_keepF hHeld.2.1 hbx901, range_keepF hHeld.2.2 hbx901⟩ (fun hHeld2 => ?_)
  clear hK K hHeld
  have hHeld := hHeld2
  clear hHeld2
  try simp only [Act.put, zq1, zq2, zq3, zq4, zq5, zq6]
  have q := QN.out
  refine wpAnyH_take (i := 5) (oi := _) (v := _) rfl (by kernel_rfl) (by kernel_rfl) (by kernel_rfl) (fun _ _ _ h => h) (Or.inl ⟨by rfl, by intro w hSw; (try dsimp only at hSw); go_simp; first | done | with_reducible rfl⟩) hHeld ?_
  try simp only [Act.put, zq1, zq2, zq3, zq4, zq5, zq6]
  clear q
  refine wpAnyH_done (by kernel_rfl) ?_ _
  have E50 := Lib.hid (D44.out.drew.below' hbx901)
  have E51 := Lib.hid (D45.out.drew.below' hbx901)
  have E52 := Lib.hid (D46.out.drew.below' hbx901)
  have E53 := Lib.hid (D47.out.drew.below' hbx901)
  have E54 := Lib.hid (D48.out.drew.below' hbx901)
  have hbel55 := (hbel49.drew).trans (hbx901.mono (hbel49.drew).size)
  clear hHeld hbx901 D44 D45 D46 D47 D48
  as_aux_lemma =>
  have c0 := E54.out.nat 0 (by rw [LS.out]; decide)
  rw [S0] at c0
  go_wp2_with (first | (refine ld24 rfl (.tmp 6) rfl G43 rfl ls E54.out LS.out ?_) | (refine st24 rfl (.tmp 2) (.tmp 27) rfl (w.heap.size + 1) rfl ls rfl LS.out (zeros 4) E51.out rfl ?_))
  refine bodyPost_ret (v := .tuple #[.agg (natsV .u64 ls).toArray, .bool true]) ?_ rfl ⟨rfl, below_setRow' hbel55 (by first | exact Nat.le_refl _ | omega) _⟩
  exact ret24x Try.results79 _ _ (w.heap.size + 1) ls _ rfl rfl (E51.out.setRow _) LS.out
set_option maxRecDepth 100000 in
set_option maxHeartbeats 1600000 in
theorem DRoot_odd (u : Nat) (w : World) (hu : u < mP) (ho : OkR u) (hs : sN u % 2 = 1) :
    Calls Try.prog 79 #[.agg (natsV .u64 (wds 4 u)).toArray] w fun e w' => e = .returned (.tuple #[.agg (natsV .u64 (wds 4 (rN u))).toArray, .bool true]) ∧ Below w.heap.size w w' := by
  have hm := fld_P.lt
  have hgt := fld_P.gt
  have HP := Lib.hid DP_any
  have HPW := Lib.hid (fun w => Pow5_any u qP mP w (Nat.lt_trans hu hm) qP_lt hm hgt)
  rw [show u ^ qP % mP = sN u from rfl] at HPW
  have HSQ := Lib.hid (fun w => Mul5_any (sN u) (sN u) mP w (Nat.lt_trans (sN_lt u) hm) (Nat.lt_trans (sN_lt u) hm) hm hgt)
  have QN := Lib.hid (fun w => neq24 (wds 4 (sN u * sN u % mP)) (wds 4 u) (wds_len 4 _) (wds_len 4 _) w)
  rw [wds_inj 4 _ u (Nat.lt_trans (Nat.mod_lt _ mP_pos) hm) (Nat.lt_trans hu hm)] at QN
  have LIT := Lib.hid lit_Q
  rw [decide_eq_true (show sN u * sN u % mP = u from ho), Bool.not_true] at QN
  have e0 := dgt0_odd (sN u)
  rw [hs] at e0
  have S0 := wds_at 4 (sN u) 0 (by omega)
  generalize dgt (2 ^ 64) (sN u) 0 = d0 at *
  have HMI := Lib.hid (fun w => dminus_any mP (sN u) w hm (Nat.lt_trans (sN_lt u) hm))
  rw [less_mP (sN u) (sN_lt u)] at HMI
  rw [show rN u = mP - sN u from if_pos hs]
  have LR := Lib.hid (wds_len 4 (mP - sN u))
  generalize wds 4 (mP - sN u) = lr at *
  have hi0 : (d0 : Int) % 2 = 1 := by omega
  have LQ := Lib.hid (wds_len 4 qP)
  have LS := Lib.hid (wds_len 4 (sN u))
  have LM := Lib.hid (wds_len 4 mP)
  have LU := Lib.hid (wds_len 4 u)
  generalize wds 4 (sN u * sN u % mP) = lsq at *
  generalize wds 4 (sN u) = ls at *
  generalize wds 4 qP = lq at *
  generalize wds 4 mP = lm at *
  generalize wds 4 u = lu at *
  clear hm hgt hu ho hs
  have i24u : (Try.prog.info? 24).map (·.size) = some (natsV .u64 lu).length := by rw [info24, natsV_length, LU.out]
  have i24s : (Try.prog.info? 24).map (·.size) = some (natsV .u64 ls).length := by rw [info24, natsV_length, LS.out]
  have i24m : (Try.prog.info? 24).map (·.size) = some (natsV .u64 lm).length := by rw [info24, natsV_length, LM.out]
  have B1 := Lib.hid ((Blk.new w 24 (natsV .u64 lu)).alloc (.cells (natsV .u64 (zeros 4)).toArray 24))
  have B2 := Lib.hid (Blk.new2 w (.cells (natsV .u64 lu).toArray 24) 24 (natsV .u64 (zeros 4)))
  have BEL := Lib.hid (((Below.refl w.heap.size w).alloc (Nat.le_refl _) (.cells (natsV .u64 lu).toArray 24)).alloc (by simp) (.cells (natsV .u64 (zeros 4)).toArray 24))
  go_enter Try.func79, Try.ntmps79
  go_wp2_with fail
  refine (HP.out _).mono ?_
  rintro e w1 ⟨rfl, hbw1⟩
  have C2 := Lib.hid (B1.out.below' hbw1)
  have C3 := Lib.hid (B2.out.below' hbw1)
  have hbel4 := BEL.out.trans (hbw1.mono BEL.out.size)
  clear B1 B2 hbw1
  have Z6 := Lib.hid (Blk.new w1 24 (natsV .u64 (zeros 4)))
  have hz7 := Lib.hid (below_setRow' (hbel4.alloc hbel4.size (.cells (natsV .u64 (zeros 4)).toArray 24)) hbel4.size (natsV .u64 lm).toArray)
  have Y8 := Lib.hid ((C2.out.alloc (.cells (natsV .u64 (zeros 4)).toArray 24)).row (natsV .u64 lm).toArray (Nat.ne_of_lt C2.out.lt))
  have Y9 := Lib.hid ((C3.out.alloc (.cells (natsV .u64 (zeros 4)).toArray 24)).row (natsV .u64 lm).toArray (Nat.ne_of_lt C3.out.lt))
  have Y10 := Lib.hid (Z6.out.setRow (natsV .u64 lm))
  go_upto_region 2 with (first | (refine st24 rfl (.tmp 4) (.tmp 7) rfl w1.heap.size rfl lm rfl LM.out (zeros 4) Z6.out rfl ?_; generalize hW : World.setRow _ _ _ = w5; have D12 := Lib.hid (show Blk w5 w.heap.size 24 (natsV .u64 lu) from (by rw [← hW]; exact Y8.out)); have D13 := Lib.hid (show Blk w5 (w.heap.size + 1) 24 (natsV .u64 (zeros 4)) from (by rw [← hW]; exact Y9.out)); have D14 := Lib.hid (show Blk w5 w1.heap.size 24 (natsV .u64 lm) from (by rw [← hW]; exact Y10.out)); have LE_D14 := (hbel4).size; have NE_D12 := Nat.ne_of_lt C2.out.lt; have NE_D13 := Nat.ne_of_lt C3.out.lt; have hbel15 : Below w.heap.size w w5 := (by rw [← hW]; exact hz7.out); clear hW Z6 hz7 C2 C3 Y8 Y9 Y10 hbel4; generalize w1.heap.size = G11 at *))
  have Z17 := Lib.hid (Blk.new w5 24 (natsV .u64 (zeros 4)))
  have hz18 := Lib.hid (below_setRow' (hbel15.alloc hbel15.size (.cells (natsV .u64 (zeros 4)).toArray 24)) hbel15.size (natsV .u64 lq).toArray)
  have Y19 := Lib.hid ((D12.out.alloc (.cells (natsV .u64 (zeros 4)).toArray 24)).row (natsV .u64 lq).toArray (Nat.ne_of_lt D12.out.lt))
  have Y20 := Lib.hid ((D13.out.alloc (.cells (natsV .u64 (zeros 4)).toArray 24)).row (natsV .u64 lq).toArray (Nat.ne_of_lt D13.out.lt))
  have Y21 := Lib.hid ((D14.out.alloc (.cells (natsV .u64 (zeros 4)).toArray 24)).row (natsV .u64 lq).toArray (Nat.ne_of_lt D14.out.lt))
  have Y22 := Lib.hid (Z17.out.setRow (natsV .u64 lq))
  go_wp2_with (first | (refine st24 rfl (.tmp 5) (.tmp 8) rfl w5.heap.size rfl lq LIT.out LQ.out (zeros 4) Z17.out rfl ?_; generalize hW : World.setRow _ _ _ = w16; have D24 := Lib.hid (show Blk w16 w.heap.size 24 (natsV .u64 lu) from (by rw [← hW]; exact Y19.out)); have D25 := Lib.hid (show Blk w16 (w.heap.size + 1) 24 (natsV .u64 (zeros 4)) from (by rw [← hW]; exact Y20.out)); have D26 := Lib.hid (show Blk w16 G11 24 (natsV .u64 lm) from (by rw [← hW]; exact Y21.out)); have D27 := Lib.hid (show Blk w16 w5.heap.size 24 (natsV .u64 lq) from (by rw [← hW]; exact Y22.out)); have LE_D27 := (hbel15).size; have NE_D24 := Nat.ne_of_lt D12.out.lt; have NE_D25 := Nat.ne_of_lt D13.out.lt; have NE_D26 := Nat.ne_of_lt D14.out.lt; have hbel28 : Below w.heap.size w w16 := (by rw [← hW]; exact hz18.out); clear hW Z17 hz18 D12 D13 D14 Y19 Y20 Y21 Y22 hbel15; generalize w5.heap.size = G23 at *) | (refine ld24 rfl (.tmp 1) rfl w.heap.size rfl lu D24.out LU.out ?_) | (refine ld24 rfl (.tmp 5) rfl G23 rfl lq D27.out LQ.out ?_) | (refine ld24 rfl (.tmp 4) rfl G11 rfl lm D26.out LM.out ?_))
  refine (HPW.out _).mono ?_
  rintro e w29 ⟨rfl, hbw29⟩
  have C30 := Lib.hid (D24.out.below' hbw29)
  have C31 := Lib.hid (D25.out.below' hbw29)
  have C32 := Lib.hid (D26.out.below' hbw29)
  have C33 := Lib.hid (D27.out.below' hbw29)
  have hbel34 := hbel28.trans (hbw29.mono hbel28.size)
  clear D24 D25 D26 D27 hbw29 hbel28
  have Z36 := Lib.hid (Blk.new w29 24 (natsV .u64 (zeros 4)))
  have hz37 := Lib.hid (below_setRow' (hbel34.alloc hbel34.size (.cells (natsV .u64 (zeros 4)).toArray 24)) hbel34.size (natsV .u64 ls).toArray)
  have Y38 := Lib.hid ((C30.out.alloc (.cells (natsV .u64 (zeros 4)).toArray 24)).row (natsV .u64 ls).toArray (Nat.ne_of_lt C30.out.lt))
  have Y39 := Lib.hid ((C31.out.alloc (.cells (natsV .u64 (zeros 4)).toArray 24)).row (natsV .u64 ls).toArray (Nat.ne_of_lt C31.out.lt))
  have Y40 := Lib.hid ((C32.out.alloc (.cells (natsV .u64 (zeros 4)).toArray 24)).row (natsV .u64 ls).toArray (Nat.ne_of_lt C32.out.lt))
  have Y41 := Lib.hid ((C33.out.alloc (.cells (natsV .u64 (zeros 4)).toArray 24)).row (natsV .u64 ls).toArray (Nat.ne_of_lt C33.out.lt))
  have Y42 := Lib.hid (Z36.out.setRow (natsV .u64 ls))
  go_wp2_with (first | (refine st24 rfl (.tmp 6) (.tmp 12) rfl w29.heap.size rfl ls rfl LS.out (zeros 4) Z36.out rfl ?_; generalize hW : World.setRow _ _ _ = w35; have D44 := Lib.hid (show Blk w35 w.heap.size 24 (natsV .u64 lu) from (by rw [← hW]; exact Y38.out)); have D45 := Lib.hid (show Blk w35 (w.heap.size + 1) 24 (natsV .u64 (zeros 4)) from (by rw [← hW]; exact Y39.out)); have D46 := Lib.hid (show Blk w35 G11 24 (natsV .u64 lm) from (by rw [← hW]; exact Y40.out)); have D47 := Lib.hid (show Blk w35 G23 24 (natsV .u64 lq) from (by rw [← hW]; exact Y41.out)); have D48 := Lib.hid (show Blk w35 w29.heap.size 24 (natsV .u64 ls) from (by rw [← hW]; exact Y42.out)); have LE_D48 := (hbel34).size; have NE_D44 := Nat.ne_of_lt C30.out.lt; have NE_D45 := Nat.ne_of_lt C31.out.lt; have NE_D46 := Nat.ne_of_lt C32.out.lt; have NE_D47 := Nat.ne_of_lt C33.out.lt; have hbel49 : Below w.heap.size w w35 := (by rw [← hW]; exact hz37.out); clear hW Z36 hz37 C30 C31 C32 C33 Y38 Y39 Y40 Y41 Y42 hbel34; generalize w29.heap.size = G43 at *))
  as_aux_lemma =>
  refine wp_region_held_drew (S := (fun w' => w'.rangeAt G43 0 (natsV .u64 ls) ∧ w'.rangeAt G11 0 (natsV .u64 lm) ∧ w'.rangeAt w.heap.size 0 (natsV .u64 lu))) (by kernel_rfl) ⟨blk_rangeV D48.out.drew, blk_rangeV D46.out.drew, blk_rangeV D44.out.drew⟩ (fun hHeld => ?_)
  refine wpAnyH_take (i := 0) (oi := _) (v := _) rfl (by kernel_rfl) (by kernel_rfl) (by kernel_rfl) (fun _ _ _ h => h) (yieldsIf_load_mid (by rfl) _ _ rfl _ _ rfl _ _ (by intro w hSw; exact hSw.1) Try.underlying24 rfl i24s) hHeld ?_
  try simp only [Act.put, zq1, zq2, zq3, zq4, zq5, zq6]
  refine wpAnyH_take (i := 1) (oi := _) (v := _) rfl (by kernel_rfl) (by kernel_rfl) (by kernel_rfl) (fun _ _ _ h => h) (yieldsIf_load_mid (by rfl) _ _ rfl _ _ rfl _ _ (by intro w hSw; exact hSw.1) Try.underlying24 rfl i24s) hHeld ?_
  try simp only [Act.put, zq1, zq2, zq3, zq4, zq5, zq6]
  refine wpAnyH_take (i := 2) (oi := _) (v := _) rfl (by kernel_rfl) (by kernel_rfl) (by kernel_rfl) (fun _ _ _ h => h) (yieldsIf_load_mid (by rfl) _ _ rfl _ _ rfl _ _ (by intro w hSw; exact hSw.2.1) Try.underlying24 rfl i24m) hHeld ?_
  try simp only [Act.put, zq1, zq2, zq3, zq4, zq5, zq6]
  refine wpAnyH_take (i := 4) (oi := _) (v := _) rfl (by kernel_rfl) (by kernel_rfl) (by kernel_rfl) (fun _ _ _ h => h) (yieldsIf_load_mid (by rfl) _ _ rfl _ _ rfl _ _ (by intro w hSw; exact hSw.2.2) Try.underlying24 rfl i24u) hHeld ?_
  try simp only [Act.put, zq1, zq2, zq3, zq4, zq5, zq6]
  refine wpAnyH_ready (rs := [3]) (by kernel_rfl) (by simp) ?_
  refine AllReadyH.cons (o := _) rfl (fun K hK => ?_) AllReadyH.nil
  go_simp
  go_at_call 65
  refine (HSQ.out _).mono ?_
  rintro e wx901 ⟨rfl, hbx901⟩
  refine hK.out _ _ ⟨range_keepF hHeld.1 hbx901, range_keepF hHeld.2.1 hbx901, range_keepF hHeld.2.2 hbx901⟩ (fun hHeld2 => ?_)
  clear hK K hHeld
  have hHeld := hHeld2
  clear hHeld2
  try simp only [Act.put, zq1, zq2, zq3, zq4, zq5, zq6]
  have q := QN.out
  refine wpAnyH_take (i := 5) (oi := _) (v := _) rfl (by kernel_rfl) (by kernel_rfl) (by kernel_rfl) (fun _ _ _ h => h) (Or.inl ⟨by rfl, by intro w hSw; (try dsimp only at hSw); go_simp; first | done | with_reducible rfl⟩) hHeld ?_
  try simp only [Act.put, zq1, zq2, zq3, zq4, zq5, zq6]
  clear q
  refine wpAnyH_done (by kernel_rfl) ?_ _
  have E50 := Lib.hid (D44.out.drew.below' hbx901)
  have E51 := Lib.hid (D45.out.drew.below' hbx901)
  have E52 := Lib.hid (D46.out.drew.below' hbx901)
  have E53 := Lib.hid (D47.out.drew.below' hbx901)
  have E54 := Lib.hid (D48.out.drew.below' hbx901)
  have hbel55 := (hbel49.drew).trans (hbx901.mono (hbel49.drew).size)
  clear hHeld hbx901 D44 D45 D46 D47 D48
  as_aux_lemma =>
  have c0 := E54.out.nat 0 (by rw [LS.out]; decide)
  rw [S0] at c0
  go_wp2_with (first | (refine ld24 rfl (.tmp 4) rfl G11 rfl lm E52.out LM.out ?_) | (refine ld24 rfl (.tmp 6) rfl G43 rfl ls E54.out LS.out ?_))
  clear c0
  refine (HMI.out _).mono ?_
  rintro e w56 ⟨rfl, hbw56⟩
  have C57 := Lib.hid (E50.out.below' hbw56)
  have C58 := Lib.hid (E51.out.below' hbw56)
  have C59 := Lib.hid (E52.out.below' hbw56)
  have C60 := Lib.hid (E53.out.below' hbw56)
  have C61 := Lib.hid (E54.out.below' hbw56)
  have hbel62 := hbel55.trans (hbw56.mono hbel55.size)
  clear E50 E51 E52 E53 E54 hbw56 hbel55
  have hz64 := Lib.hid (below_setRow' hbel62 (show w.heap.size ≤ G43 by first | exact Nat.le_refl _ | omega) (natsV .u64 lr).toArray)
  have Y65 := Lib.hid (C57.out.row (natsV .u64 lr).toArray (show w.heap.size ≠ G43 by first | omega | assumption | exact Ne.symm (by assumption)))
  have Y66 := Lib.hid (C58.out.row (natsV .u64 lr).toArray (show (w.heap.size + 1) ≠ G43 by first | omega | assumption | exact Ne.symm (by assumption)))
  have Y67 := Lib.hid (C59.out.row (natsV .u64 lr).toArray (show G11 ≠ G43 by first | omega | assumption | exact Ne.symm (by assumption)))
  have Y68 := Lib.hid (C60.out.row (natsV .u64 lr).toArray (show G23 ≠ G43 by first | omega | assumption | exact Ne.symm (by assumption)))
  have Y69 := Lib.hid (C61.out.setRow (natsV .u64 lr))
  go_wp2_with (first | (refine st24 rfl (.tmp 6) (.tmp 26) rfl G43 rfl lr rfl LR.out ls C61.out LS.out ?_; generalize hW : World.setRow _ _ _ = w63; have D70 := Lib.hid (show Blk w63 w.heap.size 24 (natsV .u64 lu) from (by rw [← hW]; exact Y65.out)); have D71 := Lib.hid (show Blk w63 (w.heap.size + 1) 24 (natsV .u64 (zeros 4)) from (by rw [← hW]; exact Y66.out)); have D72 := Lib.hid (show Blk w63 G11 24 (natsV .u64 lm) from (by rw [← hW]; exact Y67.out)); have D73 := Lib.hid (show Blk w63 G23 24 (natsV .u64 lq) from (by rw [← hW]; exact Y68.out)); have D74 := Lib.hid (show Blk w63 G43 24 (natsV .u64 lr) from (by rw [← hW]; exact Y69.out)); have hbel75 : Below w.heap.size w w63 := (by rw [← hW]; exact hz64.out); clear hW hz64 C57 C58 C59 C60 C61 Y65 Y66 Y67 Y68 Y69 hbel62) | (refine ld24 rfl (.tmp 6) rfl G43 rfl lr D74.out LR.out ?_) | (refine st24 rfl (.tmp 2) (.tmp 27) rfl (w.heap.size + 1) rfl lr rfl LR.out (zeros 4) D71.out rfl ?_))
  refine bodyPost_ret (v := .tuple #[.agg (natsV .u64 lr).toArray, .bool true]) ?_ rfl ⟨rfl, below_setRow' hbel75 (by first | exact Nat.le_refl _ | omega) _⟩
  exact ret24x Try.results79 _ _ (w.heap.size + 1) lr _ rfl rfl (D71.out.setRow _) LR.out
theorem four_q : 4 * qP = mP + 1 := by decide +kernel
theorem sq_pow_gen (m q b : Nat) (hp : IsPrime m) (h4 : 4 * q = m + 1) (hb : b < m) : (b * b % m) ^ q * (b * b % m) ^ q % m = b * b % m := by
  have e1 : (b * b % m) ^ q * (b * b % m) ^ q % m = b ^ (4 * q) % m := by
    rw [← Nat.pow_add, ← Nat.pow_mod, ← Nat.pow_two, ← Nat.pow_mul, show 2 * (q + q) = 4 * q by omega]
  rw [e1, h4]
  by_cases h0 : b = 0
  · subst h0; rw [Nat.pow_succ]; simp
  · have hf := fermat hp (a := b) (fun hd => by have := Nat.le_of_dvd (by omega) hd; omega)
    have h2 := hp.1
    have hp1 : m + 1 = (m - 1) + 2 := by omega
    rw [hp1, Nat.pow_add, ← mulmod_left, hf, Nat.one_mul, Nat.pow_two]
theorem sq_pow (b : Nat) (hb : b < mP) : (b * b % mP) ^ qP * (b * b % mP) ^ qP % mP = b * b % mP := sq_pow_gen mP qP b prime_mP four_q hb
theorem okR_sq (b : Nat) (hb : b < mP) : OkR (b * b % mP) := by
  unfold OkR sN
  rw [← Nat.mul_mod]; exact sq_pow b hb
theorem rN_even (u : Nat) : rN u % 2 = 0 := by
  have h := sN_lt u
  have ho := mP_odd
  unfold rN; split <;> omega
theorem neg_sq (m s : Nat) (h : s ≤ m) : (m - s) * (m - s) % m = s * s % m := by
  obtain ⟨d, rfl⟩ : ∃ d, m = s + d := ⟨m - s, by omega⟩
  rw [Nat.add_sub_cancel_left]
  have e : d * d + (s + d) * s = s * s + (s + d) * d := by
    rw [Nat.add_mul, Nat.add_mul, Nat.mul_comm d s]; omega
  have h1 : (d * d + (s + d) * s) % (s + d) = (s * s + (s + d) * d) % (s + d) := by rw [e]
  rwa [Nat.add_mul_mod_self_left, Nat.add_mul_mod_self_left] at h1
theorem rN_sq (u : Nat) (h : OkR u) : rN u * rN u % mP = u := by
  have hl := sN_lt u
  unfold rN
  split
  · rw [neg_sq mP (sN u) (by omega)]; exact h
  · exact h
theorem Root_no (a : Nat) (w : World) (ha : a < 2 ^ 256) (h : ¬ (a < mP ∧ OkR (ofF mP vP a))) : Calls Try.prog 130 #[.agg (natsV .u64 (wds 4 a)).toArray] w fun e w' => e = .returned (.tuple #[.agg (natsV .u64 (zeros 4)).toArray, .bool false]) ∧ Below w.heap.size w w' := by
  by_cases hc : a < mP
  · exact Root_none a w hc (fun ho => h ⟨hc, ho⟩)
  · exact Root_bad a w ha hc
theorem Root_good (a : Nat) (w : World) (hc : a < mP) (ho : OkR (ofF mP vP a)) : Calls Try.prog 130 #[.agg (natsV .u64 (wds 4 a)).toArray] w fun e w' => e = .returned (.tuple #[.agg (natsV .u64 (wds 4 (toF mP (rN (ofF mP vP a))))).toArray, .bool true]) ∧ Below w.heap.size w w' := by
  rcases Nat.mod_two_eq_zero_or_one (sN (ofF mP vP a)) with h | h
  · exact Root_even a w hc ho h
  · exact Root_odd a w hc ho h
theorem DRoot_good (u : Nat) (w : World) (hu : u < mP) (ho : OkR u) : Calls Try.prog 79 #[.agg (natsV .u64 (wds 4 u)).toArray] w fun e w' => e = .returned (.tuple #[.agg (natsV .u64 (wds 4 (rN u))).toArray, .bool true]) ∧ Below w.heap.size w w' := by
  rcases Nat.mod_two_eq_zero_or_one (sN u) with h | h
  · exact DRoot_even u w hu ho h
  · exact DRoot_odd u w hu ho h
end Go.Proofs.Ytfffmoolkgheaaa
