/- Parts of proofs of statements, each text behind those that it stands on. No condition of its own. -/
import Derived.Below
import Derived.ChangeOld
import Derived.OpenShut
import Derived.ShutString
import Derived.SizedLaws
import Derived.Test.YtdkkombpkojjaaaGreatRows
import Derived.Test.YtdkkombpkojjaaaGreatC41
namespace Go.Proofs.YtdkkombpkojjaaaGreat
open Go.RowKit
set_option linter.unusedVariables false
theorem dg_len {w : World} {A : Option Addr} {n c : Nat} {l : List Nat} (hB : BIn w A n c l) : (l.take (min n 32) ++ zeros (32 - min n 32)).length = 32 := by
 rw [List.length_append, List.length_take, hB.1.1]; simp [zeros]; omega
theorem wds_mod_0 {x : Nat} : wds 4 (x % mN) = zeros 4 ↔ x % mN = 0 := wds4_0 (Nat.lt_trans (Nat.mod_lt _ mNpos) mN256)
theorem bound_any (D K : Nat) (A : Option Addr) (n c : Nat) (l : List Nat) (A2 : Option Addr) (n2 e2 : Nat) (l2 : List Nat) (w : World) (hD : D < 2 ^ 256) (hK : K < 2 ^ 256) (hB : BIn w A n c l) (hB2 : BIn w A2 n2 e2 l2) (hn2 : n2 ≤ 140737488351232) :
   Calls Tryz.prog 5 #[.agg (sgv (wds 4 D) (wds 4 K) (.slice A n c)).toArray, .slice A2 n2 e2] w fun e w' => e = .returned (.bool true) ∧ Below w.heap.size w w' := by
 have c3 := d_rest D hD
 have c4 := d_rest K hK
 have LD := wds_len 4 D
 have LK := wds_len 4 K
 have LN := wds_len 4 mN
 have z1 := wds_mod_0 (x := D)
 have z2 := wds_mod_0 (x := K)
 have hd := Nat.mod_lt D mNpos
 have hk := Nat.mod_lt K mNpos
 have Ld := wds_len 4 (D % mN)
 have Lk := wds_len 4 (K % mN)
 by_cases h1 : D % mN = 0
 · exact wbound_d0 (m := 0) (l := []) (l2 := []) w LD LK LN Ld Lk (z1.2 h1) k_awake7 DN_any c3 c4
 · by_cases h2 : K % mN = 0
   · exact wbound_k0 (m := 0) (l := []) (l2 := []) w LD LK LN Ld Lk (fun h => h1 (z1.1 h)) (z2.2 h2) k_awake7 DN_any c3 c4
   · generalize D % mN = d at *
     generalize K % mN = k at *
     obtain ⟨dg, hdg⟩ : ∃ dg, dg = l.take (min n 32) ++ zeros (32 - min n 32) := ⟨_, rfl⟩
     have hl : dg.length = 32 := hdg ▸ dg_len hB
     have hd0 : d % mN ≠ 0 := lt_ne h1 hd
     have hk0 : k % mN ≠ 0 := lt_ne h2 hk
     obtain ⟨qx, qy, hQ⟩ := key_aff hd0
     have hon : EC.On bP (.aff qx qy) := hQ ▸ on_mulG d
     have c6 := k_mulP on_gP d (Nat.lt_trans hd mN256)
     rw [hQ] at c6
     by_cases hs : rE k ≠ 0 ∧ sE (scE 32 dg) d k ≠ 0
     · obtain ⟨hr0, hs0⟩ := hs
       have hv : ∀ nd ld, scE nd ld = scE 32 dg → verE 65 (encL qx qy) nd ld 64 (sigL (rE k) (sE (scE 32 dg) d k)) = 0 := fun nd ld h => by
         rw [verE_sig hQ hr0 (rE_lt k) hs0 (sE_lt _ _ _), h]
         exact sign_ok hk0 hr0 hs0
       have hsg := fun S W (h : BIn W S 32 32 dg) => d_sign_ok (d := d) (k := k) h hd hk hr0 hs0
       have hof := fun S W (h : BIn W S 32 32 dg) => refOf_any S 32 dg W h
       have v1 := fun S1 k1 S2 S3 k3 W (h1 : BIn W S1 65 k1 (encL qx qy)) (h2 : BIn W S2 32 32 dg) (h3 : BIn W S3 64 k3 (sigL (rE k) (sE (scE 32 dg) d k))) => by
         have q := k_verify h1 h2 h3
         rw [hv 32 dg rfl] at q
         exact q
       have v2 := fun S1 k1 S2 k2 S3 k3 W (h1 : BIn W S1 65 k1 (encL qx qy)) (h2 : BIn W S2 (32 + n2) k2 (dg ++ l2)) (h3 : BIn W S3 64 k3 (sigL (rE k) (sE (scE 32 dg) d k))) => by
         have q := k_verify h1 h2 h3
         rw [hv (32 + n2) (dg ++ l2) (by rw [← hB2.1.1]; exact scE_more hl)] at q
         exact q
       have hx : ∀ W S, BIn W S 32 32 dg → be dg < 2 ^ 256 := fun W S h => be_256 hl h.1.2.2.1
       have hx0 : be dg < 2 ^ 256 := be_256 hl (fun z hz => by
         rw [hdg] at hz
         rcases List.mem_append.1 hz with h | h
         · exact hB.1.2.2.1 z (List.mem_of_mem_take h)
         · rw [List.eq_of_mem_replicate h]; decide)
       have ca := fun w => refAdd_any (be dg) mN w hx0 mN256
       by_cases hov : be dg + mN < 2 ^ 256
       · have ea : addC (be dg) mN = 0 := by unfold addC; rw [Nat.div_eq_of_lt hov]
         rw [ea] at ca
         have v3 := fun S1 k1 S2 S3 k3 W (h1 : BIn W S1 65 k1 (encL qx qy)) (h2 : BIn W S2 32 32 (bytesOf_ (be dg + mN))) (h3 : BIn W S3 64 k3 (sigL (rE k) (sE (scE 32 dg) d k))) => by
           have q := k_verify h1 h2 h3
           rw [hv 32 _ (by rw [scE_32 (bytesOf_len _), scE_32 hl, be_bytesOf _ hov, Nat.add_mod_right])] at q
           exact q
         exact wbound_o0 w LD LK LN Ld Lk (nw_len gX) (nw_len gY) (nw_len qx) (nw_len qy) (wds_len 4 _) (wds_len 4 _) (fun h => h1 (z1.1 h)) (fun h => h2 (z2.1 h)) hB rfl hdg hsg (encL_lt qx qy) (k_encode hon) hB2 hn2 (sigL_lt _ _) hof v1 v2 (bytesOf_len _) (bytesOf_lt _) v3 k_awake7 DN_any c3 c4 base_k c6 ca (refBytes_any _)
       · have ea : addC (be dg) mN = 1 := by
           unfold addC
           have h3 : be dg + mN < 2 ^ 256 * 2 := by have := mN256; omega
           exact Nat.div_eq_of_lt_le (by omega) (by omega)
         rw [ea] at ca
         exact wbound_o1 (B := []) w LD LK LN Ld Lk (nw_len gX) (nw_len gY) (nw_len qx) (nw_len qy) (wds_len 4 _) (wds_len 4 _) (fun h => h1 (z1.1 h)) (fun h => h2 (z2.1 h)) hB rfl hdg hsg (encL_lt qx qy) (k_encode hon) hB2 hn2 (sigL_lt _ _) hof v1 v2 k_awake7 DN_any c3 c4 base_k c6 ca
     · have hsg := fun S W (h : BIn W S 32 32 dg) => d_sign_no (d := d) (k := k) h hd hk hs
       exact wbound_no (L := []) (l2 := l2) (B := []) w LD LK LN Ld Lk (nw_len gX) (nw_len gY) (nw_len qx) (nw_len qy) (fun h => h1 (z1.1 h)) (fun h => h2 (z2.1 h)) hB rfl hdg hsg (encL_lt qx qy) (k_encode hon) k_awake7 DN_any c3 c4 base_k c6
open Go.ChangeShapes Go.WideShapes Go.ChangeAt Go.RowKit
theorem own : ownKnob Tryz.prog.godebug = none := by kernel_rfl
theorem laidOut : laidOutB Tryz.prog = true := by kernel_rfl
theorem u8_bounds {n : Int} (h : (Lit.int .u8 n).wf = true) : 0 ≤ n ∧ n < 256 := by
 have := bounds_u8 h; omega
theorem byteRow_in {H : Type} {enc : TypeId × Value → H} {W : World} {a : Option Addr} {len cap fuel : Nat} {x : DataW H × List MemPlace}
   (h : DataW.trod enc Tryz.prog W 0 (fun _ => true) true fuel 22 [Value.slice a len cap] = some x) : ∃ l, ByteRow W a len l := by
 rcases open_ints Tryz.underlying22 Tryz.underlying5 (by kernel_rfl) h with ⟨hcs, _⟩ | ⟨y, l, c, zs, hcs, _, hl, hm, hz, _, hcell, hwz⟩
 · simp only [List.cons.injEq, Value.slice.injEq, and_true] at hcs
   obtain ⟨rfl, rfl, rfl⟩ := hcs
   exact ⟨[], rfl, Nat.zero_le _, by simp, .inl rfl⟩
 · simp only [List.cons.injEq, Value.slice.injEq, and_true] at hcs
   obtain ⟨rfl, rfl, rfl⟩ := hcs
   simp only [if_true] at hz
   refine ⟨(zs.take len).map Int.toNat, by simp; omega, by omega, ?_, ?_⟩
   · intro n hn
     obtain ⟨z, hz1, rfl⟩ := List.mem_map.1 hn
     have := u8_bounds (hwz z (List.mem_of_mem_take hz1))
     omega
   · by_cases h0 : len = 0
     · exact .inl h0
     right
     obtain ⟨b, off, spot⟩ := y
     have hs := World.cell?_spot (hcell 0 (by omega))
     simp only [Addr.add] at hs
     subst hs
     refine ⟨b, off, rfl, fun i hi => ?_⟩
     have hc := hcell i (by omega)
     have ha : (Addr.mk b off none).add i = Addr.mk b (off + i) none := by
       simp only [Addr.add]; split
       · rename_i h; subst h; rfl
       · rfl
     rw [ha] at hc
     rw [hc]
     have hzi : zs.getD i 0 ∈ zs := by
       rw [List.getD_eq_getElem?_getD, List.getElem?_eq_getElem (by omega)]; exact List.getElem_mem _
     have hb := u8_bounds (hwz _ hzi)
     have e : ((zs.take len).map Int.toNat).getD i 0 = (zs.getD i 0).toNat := by
       simp only [List.getD_eq_getElem?_getD, List.getElem?_map, List.getElem?_take]
       rw [if_pos hi, List.getElem?_eq_getElem (by omega)]; rfl
     rw [e, Int.toNat_of_nonneg hb.1]
theorem bytes5 : Tryz.prog.bytesOf 5 = 1 := by kernel_rfl
theorem bin_in {H : Type} {enc : TypeId × Value → H} {W : World} {v : Value} {fuel : Nat} {x : DataW H × List MemPlace}
   (h : DataW.trod enc Tryz.prog W 0 (fun _ => true) true fuel 22 [v] = some x) (hr : ∀ k ∈ DataW.weights Tryz.prog 22 x.1, k ≤ reachBytes) :
   ∃ a n c l, v = .slice a n c ∧ BIn W a n c l ∧ n ≤ 140737488351232 := by
 rcases open_ints Tryz.underlying22 Tryz.underlying5 (by kernel_rfl) h with ⟨hcs, _⟩ | ⟨y, n, c, zs, hcs, _, hl, hm, hz, hx, hcell, hwz⟩
 · simp only [List.cons.injEq, and_true] at hcs
   subst hcs
   exact ⟨none, 0, 0, [], rfl, ⟨⟨rfl, Nat.zero_le _, by simp, .inl rfl⟩, Nat.le_refl _, Nat.zero_le _, by omega, fun _ => rfl⟩, by omega⟩
 · simp only [List.cons.injEq, and_true] at hcs
   subst hcs
   obtain ⟨l, hrow⟩ := byteRow_in h
   simp only [if_true] at hz
   have hb : c ≤ 140737488351232 := by
     have := hr (zs.length * 1) (by
       rw [hx]
       simp only [DataW.weights, Tryz.underlying22, bytes5]
       refine List.mem_cons.2 (.inl ?_)
       simp [lits]
       omega)
     rw [hz] at this
     simp only [reachBytes] at this
     omega
   exact ⟨some y, n, c, l, rfl, ⟨hrow, hl, hm, by omega, fun h => by cases h⟩, by omega⟩
open Go.ChangeShapes Go.WideShapes Go.ChangeAt Go.RowKit
set_option maxRecDepth 100000
set_option linter.unusedSimpArgs false
theorem words_of_trod {H : Type} {enc : TypeId × Value → H} {W : World} {base fuel : Nat} {spare : Nat → Bool} {held : Bool} {cs : List Value} {x : DataW H × List MemPlace}
   (h : DataW.trod enc Tryz.prog W base spare held fuel 26 cs = some x) : ∃ v, v < 2 ^ 256 ∧ cs = natsV .u64 (wds 4 v) := by
 obtain ⟨xs, m, rfl, hx, hl, hxl, hel⟩ := DataW.trod_array Tryz.underlying26 h
 have c25 : Tryz.prog.cellsOf 26 = 4 := by kernel_rfl
 rw [c25] at hl
 have each : ∀ i, i < 4 → ∃ z : Nat, z < 2 ^ 64 ∧ cs[i]? = some (.int .u64 (z : Int)) := by
   intro i hi
   have h1 := hel i hi
   rw [cells23, Nat.mul_one] at h1
   have e1 : (cs.drop i).take 1 = [cs[i]'(by omega)] := by
     rw [List.drop_eq_getElem_cons (by omega)]; rfl
   rw [e1] at h1
   have hxi : xs[i]? = some (xs[i]'(by omega)) := List.getElem?_eq_getElem (by omega)
   rw [hxi] at h1
   obtain ⟨z, hz1, _, hwf⟩ := DataW.trod_int Tryz.underlying24 h1
   have hb := bounds_u64 hwf
   obtain ⟨n, rfl⟩ := Int.eq_ofNat_of_zero_le hb.1
   refine ⟨n, by have := hb.2; omega, ?_⟩
   have : cs[i]'(by omega) = .int .u64 (n : Int) := by simpa using hz1
   rw [List.getElem?_eq_getElem (by omega), this]
 have hnat : ∃ f : Nat → Nat, ∀ i, i < 4 → f i < 2 ^ 64 ∧ cs[i]? = some (.int .u64 (f i : Nat)) := by
   refine ⟨fun i => if h : i < 4 then (each i h).choose else 0, fun i hi => ?_⟩
   simp only [hi, dif_pos]
   exact (each i hi).choose_spec
 obtain ⟨f, hfn⟩ := hnat
 have hlt : ∀ x ∈ tell f 4, x < 2 ^ 64 := by
   intro x hx
   obtain ⟨i, hi, rfl⟩ := List.mem_map.1 hx
   exact (hfn i (List.mem_range.1 hi)).1
 have hw := wds_of (tell f 4) hlt
 rw [tell_length] at hw
 refine ⟨val (2 ^ 64) (tell f 4), ?_, ?_⟩
 · have := val_lt (tell f 4) hlt
   rw [tell_length, ← Nat.pow_mul] at this
   exact this
 · rw [hw]
   apply List.ext_getElem?
   intro i
   rcases Nat.lt_or_ge i 4 with hi | hi
   · have e2 := natsV_get .u64 (tell f 4) i (by rw [tell_length]; exact hi)
     rw [tell_getD _ _ _ hi] at e2
     rw [e2]; exact (hfn i hi).2
   · rw [List.getElem?_eq_none (by omega), List.getElem?_eq_none (by rw [natsV_length, tell_length]; exact hi)]
open Go.ChangeShapes Go.WideShapes Go.ChangeAt Go.RowKit
set_option maxRecDepth 100000
theorem signer_in {H : Type} {enc : TypeId × Value → H} {W : World} {base : Nat} {v : Value} {d : DataW H} {p : List MemPlace} (hv : Value.okWide Tryz.prog W .any base 42 v)
   (h : DataW.Trod enc Tryz.prog W 0 (fun _ => true) true 42 v d p) (hsz : ∀ k ∈ DataW.weights Tryz.prog 42 d, k ≤ reachBytes) :
   ∃ x y A n c l, x < 2 ^ 256 ∧ y < 2 ^ 256 ∧ v = .agg (sgv (wds 4 x) (wds 4 y) (.slice A n c)).toArray ∧ BIn W A n c l ∧ n ≤ 140737488351232 := by
 have hv' : ∃ cs, v = .agg cs ∧ cs.size = Tryz.prog.cellsOf 42 ∧ Row.okWide Tryz.prog W .any base 42 cs := by
   have := hv
   simp only [Value.okWide, Tryz.underlying42] at this
   exact this
 obtain ⟨cs, rfl, hsize, _⟩ := hv'
 obtain ⟨fuel, hf⟩ := h
 obtain ⟨xs, m, rfl, hx, hl, hxl, hel⟩ := DataW.trod_struct Tryz.underlying42 hf
 have c43 : Tryz.prog.cellsOf 42 = 9 := by kernel_rfl
 have c24 : Tryz.prog.cellsOf 26 = 4 := by kernel_rfl
 have c4 : Tryz.prog.cellsOf 22 = 1 := by kernel_rfl
 rw [c43] at hsize
 have hxl3 : xs.length = 3 := hxl
 have h0 : DataW.trod enc Tryz.prog W 0 (fun _ => true) true m 26 ((cs.toList.drop 0).take (Tryz.prog.cellsOf 26)) = xs[0]? := hel 0 _ rfl
 have h1 : DataW.trod enc Tryz.prog W 0 (fun _ => true) true m 26 ((cs.toList.drop 4).take (Tryz.prog.cellsOf 26)) = xs[1]? := hel 1 _ rfl
 have h2 : DataW.trod enc Tryz.prog W 0 (fun _ => true) true m 22 ((cs.toList.drop 8).take (Tryz.prog.cellsOf 22)) = xs[2]? := hel 2 _ rfl
 match xs, hxl3 with
 | [y0, y1, y2], _ =>
   rw [c24] at h0 h1
   rw [c4] at h2
   obtain ⟨x, hx1, ex⟩ := words_of_trod (show _ = some y0 from h0)
   obtain ⟨y, hy1, ey⟩ := words_of_trod (show _ = some y1 from h1)
   have hcl : cs.toList.length = 9 := by simpa using hsize
   obtain ⟨v2, e8⟩ : ∃ v2, cs.toList.drop 8 = [v2] := by
     match hq : cs.toList.drop 8, (show (cs.toList.drop 8).length = 1 by rw [List.length_drop]; omega) with
     | [v2], _ => exact ⟨v2, rfl⟩
   rw [e8] at h2
   have hd : d = .agg [y0.1, y1.1, y2.1] := by simpa using (Prod.mk.inj hx).1
   have hw : ∀ k ∈ DataW.weights Tryz.prog 22 y2.1, k ≤ reachBytes := fun k hk => hsz k (by
     rw [hd]
     simp only [DataW.weights, Tryz.underlying42]
     exact DataW.weights_mem_each (j := 2) rfl rfl k hk)
   obtain ⟨A, n, c, l, rfl, hin, hreach⟩ := bin_in (show _ = some y2 from h2) hw
   refine ⟨x, y, A, n, c, l, hx1, hy1, ?_, hin, hreach⟩
   have e : cs.toList = sgv (wds 4 x) (wds 4 y) (.slice A n c) := by
     have ex' : (cs.toList.drop 0).take 4 = natsV .u64 (wds 4 x) := ex
     have ey' : (cs.toList.drop 4).take 4 = natsV .u64 (wds 4 y) := ey
     unfold sgv
     rw [← ex', ← ey', ← e8, List.drop_zero]
     have h4 : cs.toList.drop 8 = (cs.toList.drop 4).drop 4 := by rw [List.drop_drop]
     rw [h4, List.take_append_drop, List.take_append_drop]
   congr 1
   rw [← e]
end Go.Proofs.YtdkkombpkojjaaaGreat
