/- Parts of proofs of statements, each text behind those that it stands on. No condition of its own. -/
import Derived.Below
import Derived.ChangeOld
import Derived.OpenShut
import Derived.ShutString
import Derived.SizedLaws
import Derived.Test.YtdkkombpkojjaaaRows
import Derived.Test.YtdkkombpkojjaaaD32
namespace Go.Proofs.Ytdkkombpkojjaaa
open Go.RowKit
set_option linter.unusedVariables false
theorem d_rest (x : Nat) (hx : x < 2 ^ 256) : Ans 6 #[.agg (natsV .u64 (wds 4 x)).toArray, .bool false, .agg (natsV .u64 (wds 4 mN)).toArray] (.agg (natsV .u64 (wds 4 (x % mN))).toArray) := fun w => by
 have k := Rest_any x mN false w mN256 hx (by show _ + 2 ^ 256 * 0 < _; have := fld_N.gt; omega)
 have e0 : x + 2 ^ 256 * false.toNat = x := by show x + 2 ^ 256 * 0 = x; omega
 rw [e0] at k
 exact k
theorem xN_256 (P : EC.Pt mP) : xN P < 2 ^ 256 := by cases P with | inf => exact Nat.two_pow_pos 256 | aff x y => exact lt256 x
theorem pX_xN (P : EC.Pt mP) : pX P = wds 4 (xN P) := by cases P with | inf => exact wds0_.symm | aff x y => rfl
theorem wds_mod_0 {x : Nat} : wds 4 (x % mN) = zeros 4 ↔ x % mN = 0 := wds4_0 (Nat.lt_trans (Nat.mod_lt _ mNpos) mN256)
theorem signed_any (D K : Nat) (A : Option Addr) (n c : Nat) (l : List Nat) (w : World) (hD : D < 2 ^ 256) (hK : K < 2 ^ 256) (hB : BIn w A n c l) :
   Calls Try.prog 3 #[.agg (sgv (wds 4 D) (wds 4 K) (.slice A n c)).toArray] w fun e w' => e = .returned (.bool true) ∧ Below w.heap.size w w' := by
 have c3 := d_rest D hD
 have c4 := d_rest K hK
 have LD := wds_len 4 D
 have LK := wds_len 4 K
 have LN := wds_len 4 mN
 have z1 := wds_mod_0 (x := D)
 have z2 := wds_mod_0 (x := K)
 have hd := Nat.mod_lt D mNpos
 have hk := Nat.mod_lt K mNpos
 have Ld := wds_len 4 (D % mN)
 have Lk := wds_len 4 (K % mN)
 by_cases h1 : D % mN = 0
 · exact wsigned_d0 (l := []) (ip := true) w LD LK LN Ld Lk (z1.2 h1) k_awake7 DN_any c3 c4
 · by_cases h2 : K % mN = 0
   · exact wsigned_k0 (l := []) (ip := true) w LD LK LN Ld Lk (fun h => h1 (z1.1 h)) (z2.2 h2) k_awake7 DN_any c3 c4
   · generalize D % mN = d at *
     generalize K % mN = k at *
     have hd2 := Nat.lt_trans hd mN256
     have hk2 := Nat.lt_trans hk mN256
     have hd0 : d % mN ≠ 0 := lt_ne h1 hd
     have hk0 : k % mN ≠ 0 := lt_ne h2 hk
     obtain ⟨qx, qy, hQ⟩ := key_aff hd0
     have hon : EC.On bP (.aff qx qy) := hQ ▸ on_mulG d
     have c6 := k_mulP on_gP d hd2
     rw [hQ] at c6
     have c7 := k_mulP on_gP k hk2
     rw [ptV_eq (EC.mul k gP), pX_xN] at c7
     have c8 := d_rest (xN (EC.mul k gP)) (xN_256 _)
     have c9 := fun W hW => k_scalar (w := W) (hB.below hW)
     have hr2 : rE k < 2 ^ 256 := Nat.lt_trans (rE_lt k) mN256
     have c10 := l_times (rE k) d hr2 hd2
     have c11 := fun w => DAdd_any (scE n l) (rE k * d % mN) mN w mN256 (scE_lt n l) (Nat.mod_lt _ mNpos)
     have c12 := l_inv k hk2 hk0
     have c13 := l_times ((scE n l + rE k * d % mN) % mN) (wN k) (Nat.lt_trans (Nat.mod_lt _ mNpos) mN256) (Nat.lt_trans (wN_lt k) mN256)
     have hs2 : sE (scE n l) d k < 2 ^ 256 := Nat.lt_trans (sE_lt (scE n l) d k) mN256
     have hld : ¬ wds 4 d = zeros 4 := fun h => h1 (z1.1 h)
     have hlk : ¬ wds 4 k = zeros 4 := fun h => h2 (z2.1 h)
     by_cases hr0 : rE k = 0
     · exact wsigned_r0 (L := []) (L2 := []) w LD LK LN Ld Lk (nw_len gX) (nw_len gY) (nw_len qx) (nw_len qy) (wds_len 4 _) (pY_len _) (wds_len 4 _) (wds_len 4 _) (wds_len 4 _) (wds_len 4 _) (wds_len 4 _) (wds_len 4 _) hld hlk ((wds4_0 hr2).2 hr0) hB (encL_lt qx qy) (k_encode hon)
         k_awake7 DN_any c3 c4 base_k c6 c7 c8 c9 c10 c11 c12 c13
     · have hlr : ¬ wds 4 (rE k) = zeros 4 := fun h => hr0 ((wds4_0 hr2).1 h)
       by_cases hs0 : sE (scE n l) d k = 0
       · exact wsigned_s0 (L := []) (L2 := []) w LD LK LN Ld Lk (nw_len gX) (nw_len gY) (nw_len qx) (nw_len qy) (wds_len 4 _) (pY_len _) (wds_len 4 _) (wds_len 4 _) (wds_len 4 _) (wds_len 4 _) (wds_len 4 _) (wds_len 4 _) hld hlk hlr ((wds4_0 hs2).2 hs0) hB (encL_lt qx qy) (k_encode hon)
           k_awake7 DN_any c3 c4 base_k c6 c7 c8 c9 c10 c11 c12 c13
       · have hls : ¬ wds 4 (sE (scE n l) d k) = zeros 4 := fun h => hs0 ((wds4_0 hs2).1 h)
         have hsl := sE_lt (scE n l) d k
         have c14 : Ans 15 #[.agg (natsV .u64 (zeros 4)).toArray, .agg (natsV .u64 (wds 4 (sE (scE n l) d k))).toArray, .agg (natsV .u64 (wds 4 mN)).toArray] (.agg (natsV .u64 (wds 4 (mN - sE (scE n l) d k))).toArray) := fun w => by
           have q := DSub_any 0 (sE (scE n l) d k) mN w mN256 mNpos hsl
           rw [wds0_, show (0 + mN - sE (scE n l) d k) % mN = mN - sE (scE n l) d k by rw [Nat.zero_add]; exact Nat.mod_eq_of_lt (by omega)] at q
           exact q
         have v1 := fun S1 k1 S3 k3 W (h1 : BIn W S1 65 k1 (encL qx qy)) (h2 : BIn W A n c l) (h3 : BIn W S3 64 k3 (sigL (rE k) (sE (scE n l) d k))) => by
           have q := k_verify h1 h2 h3
           rw [verE_sig hQ hr0 (rE_lt k) hs0 hsl, sign_ok hk0 hr0 hs0] at q
           exact q
         have v2 := fun S1 k1 S3 k3 W (h1 : BIn W S1 65 k1 (encL qx qy)) (h2 : BIn W A n c l) (h3 : BIn W S3 64 k3 (sigL (rE k) (mN - sE (scE n l) d k))) => by
           have q := k_verify h1 h2 h3
           rw [verE_sig hQ hr0 (rE_lt k) (show mN - sE (scE n l) d k ≠ 0 by omega) (by omega), sign_neg hk0 hr0 hs0] at q
           exact q
         have v3 := fun S1 k1 S3 k3 W (h1 : BIn W S1 65 k1 (encL qx qy)) (h2 : BIn W A n c l) (h3 : BIn W S3 65 k3 (sigL (rE k) (sE (scE n l) d k) ++ [0])) => by
           have q := k_verify h1 h2 h3
           rw [verE_long hon] at q
           exact q
         exact wsigned_ok w LD LK LN Ld Lk (nw_len gX) (nw_len gY) (nw_len qx) (nw_len qy) (wds_len 4 _) (pY_len _) (wds_len 4 _) (wds_len 4 _) (wds_len 4 _) (wds_len 4 _) (wds_len 4 _) (wds_len 4 _) (wds_len 4 _) hld hlk hlr hls hB (encL_lt qx qy) (k_encode hon)
           (sigL_lt _ _) (sigL_lt _ _) (d_join _ _) (d_join _ _) v1 v2 v3 k_awake7 DN_any c3 c4 base_k c6 c7 c8 c9 c10 c11 c12 c13 c14
open Go.ChangeShapes Go.WideShapes Go.ChangeAt Go.RowKit
theorem own : ownKnob Try.prog.godebug = none := by kernel_rfl
theorem laidOut : laidOutB Try.prog = true := by kernel_rfl
theorem u8_bounds {n : Int} (h : (Lit.int .u8 n).wf = true) : 0 ≤ n ∧ n < 256 := by
 have := bounds_u8 h; omega
theorem byteRow_in {H : Type} {enc : TypeId × Value → H} {W : World} {a : Option Addr} {len cap fuel : Nat} {x : DataW H × List MemPlace}
   (h : DataW.trod enc Try.prog W 0 (fun _ => true) true fuel 25 [Value.slice a len cap] = some x) : ∃ l, ByteRow W a len l := by
 rcases open_ints Try.underlying25 Try.underlying5 (by kernel_rfl) h with ⟨hcs, _⟩ | ⟨y, l, c, zs, hcs, _, hl, hm, hz, _, hcell, hwz⟩
 · simp only [List.cons.injEq, Value.slice.injEq, and_true] at hcs
   obtain ⟨rfl, rfl, rfl⟩ := hcs
   exact ⟨[], rfl, Nat.zero_le _, by simp, .inl rfl⟩
 · simp only [List.cons.injEq, Value.slice.injEq, and_true] at hcs
   obtain ⟨rfl, rfl, rfl⟩ := hcs
   simp only [if_true] at hz
   refine ⟨(zs.take len).map Int.toNat, by simp; omega, by omega, ?_, ?_⟩
   · intro n hn
     obtain ⟨z, hz1, rfl⟩ := List.mem_map.1 hn
     have := u8_bounds (hwz z (List.mem_of_mem_take hz1))
     omega
   · by_cases h0 : len = 0
     · exact .inl h0
     right
     obtain ⟨b, off, spot⟩ := y
     have hs := World.cell?_spot (hcell 0 (by omega))
     simp only [Addr.add] at hs
     subst hs
     refine ⟨b, off, rfl, fun i hi => ?_⟩
     have hc := hcell i (by omega)
     have ha : (Addr.mk b off none).add i = Addr.mk b (off + i) none := by
       simp only [Addr.add]; split
       · rename_i h; subst h; rfl
       · rfl
     rw [ha] at hc
     rw [hc]
     have hzi : zs.getD i 0 ∈ zs := by
       rw [List.getD_eq_getElem?_getD, List.getElem?_eq_getElem (by omega)]; exact List.getElem_mem _
     have hb := u8_bounds (hwz _ hzi)
     have e : ((zs.take len).map Int.toNat).getD i 0 = (zs.getD i 0).toNat := by
       simp only [List.getD_eq_getElem?_getD, List.getElem?_map, List.getElem?_take]
       rw [if_pos hi, List.getElem?_eq_getElem (by omega)]; rfl
     rw [e, Int.toNat_of_nonneg hb.1]
theorem bytes5 : Try.prog.bytesOf 5 = 1 := by kernel_rfl
theorem bin_in {H : Type} {enc : TypeId × Value → H} {W : World} {v : Value} {fuel : Nat} {x : DataW H × List MemPlace}
   (h : DataW.trod enc Try.prog W 0 (fun _ => true) true fuel 25 [v] = some x) (hr : ∀ k ∈ DataW.weights Try.prog 25 x.1, k ≤ reachBytes) :
   ∃ a n c l, v = .slice a n c ∧ BIn W a n c l ∧ n ≤ 140737488351232 := by
 rcases open_ints Try.underlying25 Try.underlying5 (by kernel_rfl) h with ⟨hcs, _⟩ | ⟨y, n, c, zs, hcs, _, hl, hm, hz, hx, hcell, hwz⟩
 · simp only [List.cons.injEq, and_true] at hcs
   subst hcs
   exact ⟨none, 0, 0, [], rfl, ⟨⟨rfl, Nat.zero_le _, by simp, .inl rfl⟩, Nat.le_refl _, Nat.zero_le _, by omega, fun _ => rfl⟩, by omega⟩
 · simp only [List.cons.injEq, and_true] at hcs
   subst hcs
   obtain ⟨l, hrow⟩ := byteRow_in h
   simp only [if_true] at hz
   have hb : c ≤ 140737488351232 := by
     have := hr (zs.length * 1) (by
       rw [hx]
       simp only [DataW.weights, Try.underlying25, bytes5]
       refine List.mem_cons.2 (.inl ?_)
       simp [lits]
       omega)
     rw [hz] at this
     simp only [reachBytes] at this
     omega
   exact ⟨some y, n, c, l, rfl, ⟨hrow, hl, hm, by omega, fun h => by cases h⟩, by omega⟩
open Go.ChangeShapes Go.WideShapes Go.ChangeAt Go.RowKit
set_option maxRecDepth 100000
set_option linter.unusedSimpArgs false
theorem words_of_trod {H : Type} {enc : TypeId × Value → H} {W : World} {base fuel : Nat} {spare : Nat → Bool} {held : Bool} {cs : List Value} {x : DataW H × List MemPlace}
   (h : DataW.trod enc Try.prog W base spare held fuel 24 cs = some x) : ∃ v, v < 2 ^ 256 ∧ cs = natsV .u64 (wds 4 v) := by
 obtain ⟨xs, m, rfl, hx, hl, hxl, hel⟩ := DataW.trod_array Try.underlying24 h
 have c25 : Try.prog.cellsOf 24 = 4 := by kernel_rfl
 rw [c25] at hl
 have each : ∀ i, i < 4 → ∃ z : Nat, z < 2 ^ 64 ∧ cs[i]? = some (.int .u64 (z : Int)) := by
   intro i hi
   have h1 := hel i hi
   rw [cells23, Nat.mul_one] at h1
   have e1 : (cs.drop i).take 1 = [cs[i]'(by omega)] := by
     rw [List.drop_eq_getElem_cons (by omega)]; rfl
   rw [e1] at h1
   have hxi : xs[i]? = some (xs[i]'(by omega)) := List.getElem?_eq_getElem (by omega)
   rw [hxi] at h1
   obtain ⟨z, hz1, _, hwf⟩ := DataW.trod_int Try.underlying22 h1
   have hb := bounds_u64 hwf
   obtain ⟨n, rfl⟩ := Int.eq_ofNat_of_zero_le hb.1
   refine ⟨n, by have := hb.2; omega, ?_⟩
   have : cs[i]'(by omega) = .int .u64 (n : Int) := by simpa using hz1
   rw [List.getElem?_eq_getElem (by omega), this]
 have hnat : ∃ f : Nat → Nat, ∀ i, i < 4 → f i < 2 ^ 64 ∧ cs[i]? = some (.int .u64 (f i : Nat)) := by
   refine ⟨fun i => if h : i < 4 then (each i h).choose else 0, fun i hi => ?_⟩
   simp only [hi, dif_pos]
   exact (each i hi).choose_spec
 obtain ⟨f, hfn⟩ := hnat
 have hlt : ∀ x ∈ tell f 4, x < 2 ^ 64 := by
   intro x hx
   obtain ⟨i, hi, rfl⟩ := List.mem_map.1 hx
   exact (hfn i (List.mem_range.1 hi)).1
 have hw := wds_of (tell f 4) hlt
 rw [tell_length] at hw
 refine ⟨val (2 ^ 64) (tell f 4), ?_, ?_⟩
 · have := val_lt (tell f 4) hlt
   rw [tell_length, ← Nat.pow_mul] at this
   exact this
 · rw [hw]
   apply List.ext_getElem?
   intro i
   rcases Nat.lt_or_ge i 4 with hi | hi
   · have e2 := natsV_get .u64 (tell f 4) i (by rw [tell_length]; exact hi)
     rw [tell_getD _ _ _ hi] at e2
     rw [e2]; exact (hfn i hi).2
   · rw [List.getElem?_eq_none (by omega), List.getElem?_eq_none (by rw [natsV_length, tell_length]; exact hi)]
open Go.ChangeShapes Go.WideShapes Go.ChangeAt Go.RowKit
set_option maxRecDepth 100000
theorem signer_in {H : Type} {enc : TypeId × Value → H} {W : World} {base : Nat} {v : Value} {d : DataW H} {p : List MemPlace} (hv : Value.okWide Try.prog W .any base 27 v)
   (h : DataW.Trod enc Try.prog W 0 (fun _ => true) true 27 v d p) (hsz : ∀ k ∈ DataW.weights Try.prog 27 d, k ≤ reachBytes) :
   ∃ x y A n c l, x < 2 ^ 256 ∧ y < 2 ^ 256 ∧ v = .agg (sgv (wds 4 x) (wds 4 y) (.slice A n c)).toArray ∧ BIn W A n c l ∧ n ≤ 140737488351232 := by
 have hv' : ∃ cs, v = .agg cs ∧ cs.size = Try.prog.cellsOf 27 ∧ Row.okWide Try.prog W .any base 27 cs := by
   have := hv
   simp only [Value.okWide, Try.underlying27] at this
   exact this
 obtain ⟨cs, rfl, hsize, _⟩ := hv'
 obtain ⟨fuel, hf⟩ := h
 obtain ⟨xs, m, rfl, hx, hl, hxl, hel⟩ := DataW.trod_struct Try.underlying27 hf
 have c43 : Try.prog.cellsOf 27 = 9 := by kernel_rfl
 have c24 : Try.prog.cellsOf 24 = 4 := by kernel_rfl
 have c4 : Try.prog.cellsOf 25 = 1 := by kernel_rfl
 rw [c43] at hsize
 have hxl3 : xs.length = 3 := hxl
 have h0 : DataW.trod enc Try.prog W 0 (fun _ => true) true m 24 ((cs.toList.drop 0).take (Try.prog.cellsOf 24)) = xs[0]? := hel 0 _ rfl
 have h1 : DataW.trod enc Try.prog W 0 (fun _ => true) true m 24 ((cs.toList.drop 4).take (Try.prog.cellsOf 24)) = xs[1]? := hel 1 _ rfl
 have h2 : DataW.trod enc Try.prog W 0 (fun _ => true) true m 25 ((cs.toList.drop 8).take (Try.prog.cellsOf 25)) = xs[2]? := hel 2 _ rfl
 match xs, hxl3 with
 | [y0, y1, y2], _ =>
   rw [c24] at h0 h1
   rw [c4] at h2
   obtain ⟨x, hx1, ex⟩ := words_of_trod (show _ = some y0 from h0)
   obtain ⟨y, hy1, ey⟩ := words_of_trod (show _ = some y1 from h1)
   have hcl : cs.toList.length = 9 := by simpa using hsize
   obtain ⟨v2, e8⟩ : ∃ v2, cs.toList.drop 8 = [v2] := by
     match hq : cs.toList.drop 8, (show (cs.toList.drop 8).length = 1 by rw [List.length_drop]; omega) with
     | [v2], _ => exact ⟨v2, rfl⟩
   rw [e8] at h2
   have hd : d = .agg [y0.1, y1.1, y2.1] := by simpa using (Prod.mk.inj hx).1
   have hw : ∀ k ∈ DataW.weights Try.prog 25 y2.1, k ≤ reachBytes := fun k hk => hsz k (by
     rw [hd]
     simp only [DataW.weights, Try.underlying27]
     exact DataW.weights_mem_each (j := 2) rfl rfl k hk)
   obtain ⟨A, n, c, l, rfl, hin, hreach⟩ := bin_in (show _ = some y2 from h2) hw
   refine ⟨x, y, A, n, c, l, hx1, hy1, ?_, hin, hreach⟩
   have e : cs.toList = sgv (wds 4 x) (wds 4 y) (.slice A n c) := by
     have ex' : (cs.toList.drop 0).take 4 = natsV .u64 (wds 4 x) := ex
     have ey' : (cs.toList.drop 4).take 4 = natsV .u64 (wds 4 y) := ey
     unfold sgv
     rw [← ex', ← ey', ← e8, List.drop_zero]
     have h4 : cs.toList.drop 8 = (cs.toList.drop 4).drop 4 := by rw [List.drop_drop]
     rw [h4, List.take_append_drop, List.take_append_drop]
   congr 1
   rw [← e]
end Go.Proofs.Ytdkkombpkojjaaa
