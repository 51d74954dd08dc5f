/- The document's begin. No condition. -/
import Derived.Test.YtidnlaibfkjgpaaDoorKRb
namespace Go.Proofs.YtidnlaibfkjgpaaDoor
open Go.RowKit
set_option linter.unusedVariables false
/-- a slice's length -/
def slN : Value → Nat
  | .slice _ n _ => n
  | _ => 0
theorem own_some {w : World} {B m : Nat} {v : Value} {xs : List Value} (h : w.ownsRow B 5 1 v m xs) (h0 : 0 < m) : ∃ G cap, v = .slice (some ⟨G, 0, none⟩) m cap ∧ m ≤ cap := by
  rcases h.2 with ⟨he, h0⟩ | ⟨G, cap, cur, e1, e2, e3⟩
  · omega
  · exact ⟨G, cap, e1, by omega⟩
/-- what 'begin' leaves -/
def BgIs (g : Nat) (K I O N : Value) (s : List Nat) (w : World) (e : Ending) (w' : World) : Prop := e = .returned (.tuple #[]) ∧ Blk w' g 72 (rsV K I O N s (.int .i64 0)) ∧ w.grownBy w' (some g)
set_option maxRecDepth 100000 in
set_option maxHeartbeats 1600000 in
theorem begin_ref (g k : Nat) (O N R : Value) (s0 : List Nat) (A : Option Addr) (n c : Nat) (l : List Nat) (w : World) (hk : IsKind k) (hs0 : s0.length = 25) (hb : BIn w A n c l) (hn : n ≤ 140737488351232)
    (h : Blk w g 72 (rsV (.int .i64 (k : Nat)) (.slice A n c) O N s0 R)) :
    Calls Tryd.prog 45 #[.pointer (some ⟨g, 0, none⟩)] w (BgIs g (.int .i64 (k : Nat)) (.slice A n c) O N (endN k (absL (rateK k) (zeros 25, 0) l)) w) := by
  have hr := rateK_le hk
  have HK := Lib.hid hk
  have HRK := Lib.hid (fun w => refKind_any k hk w)
  have HB := Lib.hid hb
  have HBLK := Lib.hid h
  have hel : endK k < 256 := by unfold endK; split <;> (first | omega | (split <;> omega))
  have HLN := Lib.hid hb.1.1
  have HLT := Lib.hid hb.1.2.2.1
  have h0 := rs_kind h
  have h1 := rs_in h
  have HEND := Lib.hid (fun b hb => blkS_end hk l b hb)
  have HZM := Lib.hid (fun j => zN_min (r := rateK k) (n := n) (j := j) (by omega))
  have HZ0 := Lib.hid (zN_mod (r := rateK k) (n := n) (by omega))
  have hzl := zN_lt (r := rateK k) (n := n) (by omega)
  clear hk hb h
  go_enter Tryd.func45, Tryd.ntmps45
  go_wp2_with fail
  refine (HRK.out _).mono ?_
  rintro e w' ⟨rfl, rfl⟩
  clear HRK
  have HO0 := Lib.hid (show w.ownsRow w.heap.size 5 1 (.slice none 0 0) 0 (bytesV []) from ⟨rfl, .inl ⟨rfl, rfl⟩⟩)
  go_wp2_with (at_builtin; refine wpList_append_bytes _ rfl _ _ rfl w.heap.size (.slice none 0 0) 0 [] rfl HO0.out A n c l rfl HB.out ?c1 ?c2 ?_)
  case c1 => omega
  case c2 => exact Nat.le_refl _
  intro v' w1 h1 h2
  have hb1 : Below w.heap.size w w1 := (Below.refl w.heap.size w).grown h2 (Nat.le_refl _) (fun j hj => by cases hj)
  have HO := Lib.hid (World.ownsRow.alloc (show w1.ownsRow w.heap.size 5 1 v' n (bytesV l) by simpa using h1) (.cells #[.int .u8 (endK k : Nat)] 5))
  have HN := Lib.hid (bin_one w1 (endK k) hel)
  have hbel := hb1.alloc hb1.size (.cells #[.int .u8 (endK k : Nat)] 5)
  have hsz := hb1.size
  clear h1 h2 HO0
  go_wp2_with (at_builtin; refine wpList_append_bytes _ rfl _ _ rfl w.heap.size v' n l rfl HO.out (some ⟨w1.heap.size, 0, none⟩) 1 1 [endK k] rfl HN.out ?d1 ?d2 ?_)
  case d1 => omega
  case d2 => simp; omega
  intro v2 w2 h1 h2
  have hb2 := hbel.grown h2 (by simp; omega) (fun j hj => (HO.out.lt j hj).1)
  have HO2 := Lib.hid (show w2.ownsRow w.heap.size 5 1 v2 (n + 1) (bytesV (l ++ [endK k])) by simpa using h1)
  clear HO HN hbel h2 h1
  go_wp2_with fail
  go_loopw [6] (fun v wr => ∃ j m : Nat, m = n + 1 + j ∧ j ≤ zN (rateK k) n ∧ wr.ownsRow w.heap.size 5 1 v m (bytesV (l ++ [endK k] ++ zeros j)) ∧ Below w.heap.size w wr) (fun v _ => n + 1 + zN (rateK k) n - slN v)
  case atStart => exact ⟨0, n + 1, rfl, by omega, by simpa [zeros] using HO2.out, hb2⟩
  case round =>
    clear HO2 hb2
    obtain ⟨j, m, hmj, hj, ho, hbel⟩ := hrel
    obtain ⟨G, cap, rfl, hcap⟩ := own_some ho (by omega)
    have HO := Lib.hid ho
    have HBE := Lib.hid hbel
    have HMJ := Lib.hid hmj
    have hm1 : 1 ≤ m := by omega
    have hm2 : m ≤ n + 200 := by omega
    clear ho hbel hmj
    by_cases hq : j < zN (rateK k) n
    · have hne := HZM.out j hq
      rw [← HMJ.out] at hne
      have hqb : (((m : Int) % (rateK k : Int)) != 0) = true := bne_iff_ne.2 (fun e => by rw [← Int.natCast_emod] at e; exact hne (Int.ofNat.inj e))
      have HO1 := Lib.hid (World.ownsRow.alloc HO.out (.cells #[.int .u8 (0 : Nat)] 5))
      have HN := Lib.hid (bin_one wr 0 (by decide))
      have hsz := HBE.out.size
      have HBE1 := Lib.hid (HBE.out.alloc hsz (.cells #[.int .u8 (0 : Nat)] 5))
      go_wp2_with (at_builtin; refine wpList_append_bytes _ rfl _ _ rfl w.heap.size _ m _ rfl HO1.out (some ⟨wr.heap.size, 0, none⟩) 1 1 [0] rfl HN.out ?d1 ?d2 ?_)
      case d1 => omega
      case d2 => simp; omega
      intro v3 w3 h1 h2
      have hb3 := HBE1.out.grown h2 (by simp; omega) (fun j hj => (HO1.out.lt j hj).1)
      have ho3 : w3.ownsRow w.heap.size 5 1 v3 (m + 1) (bytesV (l ++ [endK k] ++ zeros (j + 1))) := by
        have e : l ++ [endK k] ++ zeros (j + 1) = l ++ [endK k] ++ zeros j ++ [0] := by simp [zeros, List.replicate_succ']
        rw [e]; simpa using h1
      obtain ⟨G3, cap3, rfl, hcap3⟩ := own_some ho3 (by omega)
      go_wp2_with fail
      go_roundw
      case rel => exact ⟨j + 1, m + 1, by rw [HMJ.out]; omega, by omega, ho3, hb3⟩
      case measure => have := HMJ.out; simp [slN]; omega
    · obtain rfl : j = zN (rateK k) n := by omega
      have hqb : (((m : Int) % (rateK k : Int)) != 0) = false := by rw [← Int.natCast_emod, HMJ.out, HZ0.out]; rfl
      have e1 : (m : Int) - 1 = ((m - 1 : Nat) : Int) := by omega
      have e1l : ((m - 1 : Nat) : Int) < (m : Int) := by omega
      have HP := Lib.hid (show (l ++ [endK k] ++ zeros (zN (rateK k) n)).set (m - 1) (if zN (rateK k) n = 0 then endK k + 128 else 128) = padM k l from by
        have := pad_set HK.out l
        rw [HLN.out] at this
        rw [← this, HMJ.out]; congr 1; omega)
      have HV := Lib.hid (show (l ++ [endK k] ++ zeros (zN (rateK k) n)).getD (m - 1) 0 = if zN (rateK k) n = 0 then endK k else 0 from by
        have := pad_last (r := 0) (e := endK k) l (zN (rateK k) n)
        rw [HLN.out] at this
        rw [← this, HMJ.out]; congr 1; omega)
      have hcell := (own_cells HO.out).2 (m - 1) (by omega)
      rw [Nat.zero_add] at hcell
      have hfz := HO.out.frozenAt (m - 1)
      have HST := Lib.hid (fun u => HO.out.stored (m - 1) u)
      have hxx : bits .xor .u8 ((if zN (rateK k) n = 0 then endK k else 0 : Nat) : Int) 128 = ((if zN (rateK k) n = 0 then endK k + 128 else 128 : Nat) : Int) := by
        have he : endK k = 6 ∨ endK k = 31 := by unfold endK; split <;> (first | exact .inr rfl | (split <;> (first | exact .inr rfl | exact .inl rfl)))
        split
        · rcases he with h | h <;> rw [h] <;> decide
        · decide
      rw [HV.out] at hcell
      have HMP := Lib.hid (show m = (padM k l).length from by rw [padM_length HK.out, HLN.out, HMJ.out])
      obtain ⟨Q, hQ⟩ : ∃ Q, m = rateK k * Q := ⟨m / rateK k, by have h1 := Nat.div_add_mod m (rateK k); have h2 := HZ0.out; rw [← HMJ.out] at h2; omega⟩
      have HQ := Lib.hid hQ
      have HGG := Lib.hid (HO.out.lt G rfl).1
      have hgw := HBLK.out.lt
      have hgG : g < G := Nat.lt_of_lt_of_le hgw HGG.out
      have HPLT := Lib.hid (padM_lt HK.out HLT.out)
      have HBG := Lib.hid (blkS_good HK.out l)
      have HBS := Lib.hid (blkS_succ HK.out l)
      clear HV HZM HZ0 HMJ hQ
      generalize l ++ [endK k] ++ zeros (zN (rateK k) n) = L at *
      generalize (if zN (rateK k) n = 0 then endK k else 0) = y at *
      generalize (if zN (rateK k) n = 0 then endK k + 128 else 128) = y2 at *
      generalize m - 1 = m1 at *
      have HM1 := Lib.hid (show (wr.setCell ⟨G, m1, none⟩ (.int .u8 (y2 : Nat))).ownsRow w.heap.size 5 1 (.slice (some ⟨G, 0, none⟩) m cap) m (bytesV (padM k l)) from by
        have := (HST.out (.int .u8 (y2 : Nat))).1
        rwa [bytesV_set, HP.out] at this)
      have HB1 := Lib.hid ((HBLK.out.below' HBE.out).other ⟨G, m1, none⟩ (.int .u8 (y2 : Nat)) (by simp; omega))
      have HG1 := Lib.hid (HBE.out.grown (HST.out (.int .u8 (y2 : Nat))).2 HBE.out.size (fun j hj => by injection hj with hj; subst hj; exact HGG.out))
      clear HST HO HBE HBLK HB
      have HT := Lib.hid (rs_there HB1.out hs0 4 (natsV .u64 (zeros 25)).toArray.size (by rw [size_nats]; decide))
      have HB2 := Lib.hid (rs_setWords (s' := zeros 25) HB1.out (by rw [hs0]; rfl))
      have HM2 := Lib.hid (HM1.out.kept (grown_setCells g (natsV .u64 (zeros 25)) 4 (wr.setCell ⟨G, m1, none⟩ (.int .u8 (y2 : Nat)))) (.inr (by simp [Value.ownBlock]; omega)))
      have HG2 := Lib.hid (grown_trans (grown_below HG1.out (some g)) (grown_setCells g (natsV .u64 (zeros 25)) 4 (wr.setCell ⟨G, m1, none⟩ (.int .u8 (y2 : Nat)))))
      go_wp2_with (refine wpList_store_mid rfl 23 (.tmp 52) (.tmp 50) rfl g 4 (natsV .u64 (zeros 25)).toArray rfl rfl HT.out (by rw [info23]; rfl) (all_nats _ _) ?_)
      go_loopw [7] (fun v wr => ∃ b t : Nat, t = rateK k * b ∧ t ≤ m ∧ v = .int .i64 t ∧ Blk wr g 72 (rsV (.int .i64 (k : Nat)) (.slice A n c) O N (blkS k l b) R) ∧ wr.ownsRow w.heap.size 5 1 (.slice (some ⟨G, 0, none⟩) m cap) m (bytesV (padM k l)) ∧ w.grownBy wr (some g)) (fun v _ => m - (intOf v).toNat)
      case atStart => exact ⟨0, 0, rfl, by omega, rfl, HB2.out, HM2.out, HG2.out⟩
      case round =>
        clear HB2 HM2 HG2 HT HB1 HM1 HG1
        obtain ⟨b, t, hbt, htm, rfl, hbl, ho, hgr⟩ := hrel
        have HBT := Lib.hid hbt
        have HBL := Lib.hid hbl
        have HO := Lib.hid ho
        have HGR := Lib.hid hgr
        have hm3 : m ≤ 140737488351432 := by omega
        clear hbt hbl ho hgr
        by_cases hq2 : t < m
        · have htq : t + rateK k ≤ m := by
            have h1 := HBT.out
            have h2 := HQ.out
            have h3 : rateK k * b < rateK k * Q := by omega
            have h4 : b < Q := Nat.lt_of_mul_lt_mul_left h3
            have h5 := Nat.mul_le_mul_left (rateK k) (show b + 1 ≤ Q from h4)
            rw [Nat.mul_add, Nat.mul_one] at h5; omega
          have htmi : (t : Int) < (m : Int) := by omega
          have hs := HBG.out b
          have HPL := Lib.hid (show t + rateK k ≤ (padM k l).length from by rw [← HMP.out]; exact htq)
          have HS := Lib.hid (show ∀ i, i ≤ rateK k → Good (putB (blkS k l b) (padM k l) t i) from fun i hi => putB_good hs t i (by have := HPL.out; omega))
          have HSU := Lib.hid (fun i (hi : i < rateK k) => putB_succ (blkS k l b) (padM k l) t i (by have := HPL.out; omega))
          have HBS1 := Lib.hid (show blkS k l (b + 1) = perm (putB (blkS k l b) (padM k l) t (rateK k)) from by
            have h1 := HPL.out
            have h2 := HBT.out
            rw [HBS.out b (by rw [Nat.mul_add, Nat.mul_one]; omega)]
            unfold putB; rw [h2])
          clear hs HBS
          go_wp2_with fail
          go_loopw [8] (fun v wr => ∃ i : Nat, v = .int .i64 i ∧ i ≤ rateK k ∧ Blk wr g 72 (rsV (.int .i64 (k : Nat)) (.slice A n c) O N (putB (blkS k l b) (padM k l) t i) R) ∧ wr.ownsRow w.heap.size 5 1 (.slice (some ⟨G, 0, none⟩) m cap) m (bytesV (padM k l)) ∧ w.grownBy wr (some g)) (fun v _ => rateK k - (intOf v).toNat)
          case atStart => exact ⟨0, rfl, by omega, HBL.out, HO.out, HGR.out⟩
          case round =>
            clear HBL HO HGR
            obtain ⟨i, rfl, hir, hbl, ho, hgr⟩ := hrel
            have hs := HS.out i hir
            have HBL := Lib.hid hbl
            have HO := Lib.hid ho
            have HGR := Lib.hid hgr
            clear hbl ho hgr
            by_cases hq3 : i < rateK k
            · have hiri : (i : Int) < (rateK k : Int) := by omega
              have hi : i < 200 := by omega
              have hcm := (own_cells HO.out).2 (t + i) (by omega)
              rw [Nat.zero_add] at hcm
              have hx := getD_lt HPLT.out (t + i)
              have HSX := Lib.hid (HSU.out i hq3)
              generalize (padM k l).getD (t + i) 0 = x at *
              have hc := rs_word HBL.out (i / 8) (by rw [hs.1]; omega)
              have hf := HBL.out.free (4 + i / 8)
              have HSL := Lib.hid hs.1
              have HP := Lib.hid (show ∀ s : List Nat, putN s i x = s.set (i / 8) (xo (s.getD (i / 8) 0) (x * 2 ^ (8 * (i % 8)))) from fun s => rfl)
              rw [HP.out] at HSX
              clear hs HP
              obtain ⟨ti, hti⟩ : ∃ ti, ti = t + i := ⟨_, rfl⟩
              have htil : (ti : Int) < (m : Int) := by omega
              have w3' : (t : Int) + (i : Int) = (ti : Int) := by omega
              rw [← hti] at hcm
              clear hti
              have m1 : (i : Int).tdiv 8 = ((i / 8 : Nat) : Int) := by rw [Int.tdiv_eq_ediv_of_nonneg (by omega)]; omega
              have m2 : (i : Int).tmod 8 = ((i % 8 : Nat) : Int) := by rw [Int.tmod_eq_emod_of_nonneg (by omega)]; omega
              have e1 : IntKind.i64.wrap (8 * ((i % 8 : Nat) : Int)) = ((8 * (i % 8) : Nat) : Int) := by rw [IntWalk.i64_in _ (by omega)]; omega
              have e1' : IntKind.i64.wrap (((i % 8 : Nat) : Int) * 8) = ((8 * (i % 8) : Nat) : Int) := by rw [IntWalk.i64_in _ (by omega)]; omega
              have hE : 8 * (i % 8) ≤ 56 := by omega
              have e2 : min (8 * (i % 8)) 64 = 8 * (i % 8) := by omega
              have e3 : IntKind.u64.wrap ((x : Int) * 2 ^ (8 * (i % 8))) = ((x * 2 ^ (8 * (i % 8)) : Nat) : Int) := by
                have hsh : x * 2 ^ (8 * (i % 8)) < 2 ^ 64 := by
                  have h1 : 2 ^ (8 * (i % 8)) ≤ 2 ^ 56 := Nat.pow_le_pow_right (by decide) hE
                  have h2 : x * 2 ^ (8 * (i % 8)) ≤ 255 * 2 ^ 56 := Nat.mul_le_mul (by omega) h1
                  exact Nat.lt_of_le_of_lt h2 (by decide)
                rw [cast_pow, ← Int.natCast_mul, IntKind.wrap_u64]; omega
              have w1 : IntKind.i64.wrap ((i / 8 : Nat) : Int) = ((i / 8 : Nat) : Int) := by rw [IntWalk.i64_in _ (by omega)]
              have w2 : IntKind.i64.wrap ((i % 8 : Nat) : Int) = ((i % 8 : Nat) : Int) := by rw [IntWalk.i64_in _ (by omega)]
              have w3 : IntKind.i64.wrap ((t : Int) + (i : Int)) = (ti : Int) := by rw [IntWalk.i64_in _ (by omega)]; exact w3'
              have w4 : IntKind.i64.wrap (ti : Int) = (ti : Int) := by rw [IntWalk.i64_in _ (by omega)]
              have i1 : ((i / 8 : Nat) : Int) < 25 := by omega
              have i1n : i / 8 < 25 := by omega
              have i2 : ((8 * (i % 8) : Nat) : Int) < 64 := by omega
              generalize x * 2 ^ (8 * (i % 8)) = sh at *
              generalize 8 * (i % 8) = E at *
              generalize i % 8 = r at *
              generalize i / 8 = p at *
              generalize (putB (blkS k l b) (padM k l) t i) = s at *
              generalize s.getD p 0 = v at *
              have rx := u64_xo
              go_wp2_with fail
              refine wp_region_still_tail 26 (by kernel_rfl) (by kernel_rfl) ?_
              change wpStill _ _ wr.drew _ _ _
              simp only [List.take_succ_cons, List.take_zero, List.drop_succ_cons, List.drop_zero]
              iterate 26 still_step
              refine wpStill_nil ?_
              change wpList _ _ _ _ _ wr.drew
              have HB4 := Lib.hid (show Blk (wr.setCell ⟨g, 4 + p, none⟩ (.int .u64 (xo v sh : Nat))) g 72 (rsV (.int .i64 (k : Nat)) (.slice A n c) O N (putB (blkS k l b) (padM k l) t (i + 1)) R) from by
                rw [HSX.out]; exact rs_setWord HBL.out p (xo v sh) (by rw [HSL.out]; exact i1n))
              have HGS := Lib.hid (grown_drewN (grown_setCell wr ⟨g, 4 + p, none⟩ (.int .u64 (xo v sh : Nat))) 1)
              have HO4 := Lib.hid (HO.out.kept HGS.out (.inr (by simp [Value.ownBlock]; omega)))
              clear HSX HBL HO
              go_wp2_with fail
              go_roundw
              case rel => exact ⟨i + 1, by go_num, by omega, HB4.out.drew, HO4.out, grown_trans HGR.out HGS.out⟩
              case measure => simp [intOf]; omega
            · obtain rfl : i = rateK k := by omega
              have HR := Lib.hid (rs_words HBL.out)
              have HP := Lib.hid (refPermute_any _ wr hs)
              have HL := Lib.hid hs.1
              have HPG := Lib.hid (perm_good hs).1
              rw [← HBS1.out] at HP HPG
              clear hs HBS1 HS HSU
              generalize (putB (blkS k l b) (padM k l) t (rateK k)) = s at *
              go_wp2_with (refine wpList_load_mid rfl 23 (.tmp 94) rfl g 4 rfl (natsV .u64 s) _ HR.out Tryd.underlying23 rfl (by rw [info23, natsV_length, HL.out]) ?_)
              refine HP.out.mono ?_
              rintro e w3 ⟨rfl, hb⟩
              have HB3 := Lib.hid (HBL.out.below' hb)
              have HO3 := Lib.hid (own_below HO.out hb)
              have HT := Lib.hid (rs_there HB3.out HL.out 4 (natsV .u64 (blkS k l (b + 1))).toArray.size (by rw [size_nats, HPG.out]; decide))
              have HB4 := Lib.hid (rs_setWords (s' := blkS k l (b + 1)) HB3.out (by rw [HL.out, HPG.out]))
              have HG4 := Lib.hid (grown_setCells g (natsV .u64 (blkS k l (b + 1))) 4 w3)
              have HO4 := Lib.hid (HO3.out.kept HG4.out (.inr (by simp [Value.ownBlock]; omega)))
              have HG5 := Lib.hid (grown_trans (grown_trans HGR.out (grown_below hb (some g))) HG4.out)
              clear HBL HO HR HP hb HB3 HO3
              go_wp2_with (refine wpList_store_mid rfl 23 (.tmp 98) (.tmp 96) rfl g 4 (natsV .u64 (blkS k l (b + 1))).toArray rfl rfl HT.out (by rw [info23, size_nats, HPG.out]) (all_nats _ _) ?_)
              go_roundw
              case rel => exact ⟨b + 1, t + rateK k, by rw [HBT.out, Nat.mul_add, Nat.mul_one], htq, by go_num, HB4.out, HO4.out, HG5.out⟩
              case measure => simp [intOf]; omega
        · obtain rfl : t = m := by omega
          have HE := Lib.hid (HEND.out b (by rw [← HBT.out, HMP.out]))
          have hc := rs_rates HBL.out (HBG.out b).1
          have hf := HBL.out.free 29
          have HB5 := Lib.hid (rs_setRates HBL.out (HBG.out b).1 (.int .i64 0))
          rw [HE.out] at HB5
          have HG5 := Lib.hid (grown_trans HGR.out (grown_setCell _ ⟨g, 29, none⟩ (.int .i64 0)))
          clear HBL HO
          go_wp2_with fail
          go_end0
          exact ⟨rfl, HB5.out, HG5.out⟩
end Go.Proofs.YtidnlaibfkjgpaaDoor
