/- Parts of proofs of statements, each text behind those that it stands on. No condition of its own. -/
import Derived.Below
import Derived.ChangeOld
import Derived.OpenShut
import Derived.ShutString
import Derived.SizedLaws
import Derived.Test.YtdkkombpkojjaaaGreatRows
import Derived.Test.YtdkkombpkojjaaaGreatV30
import Derived.Test.YtdkkombpkojjaaaGreatV41
namespace Go.Proofs.YtdkkombpkojjaaaGreat
set_option maxRecDepth 100000
set_option maxHeartbeats 3200000
open Go.RowKit
set_option linter.unusedVariables false
theorem d_scalar {w : World} {A : Option Addr} {n c : Nat} {l : List Nat} (hB : BIn w A n c l) :
   Calls Tryz.prog 12 #[.slice A n c] w fun e w' => e = .returned (.agg (natsV .u64 (wds 4 (scE n l))).toArray) ∧ Below w.heap.size w w' := by
 have c1 := fun A c W (h : BIn W A 32 c (zeros (32 - min n 32) ++ l.take (min n 32))) => refOf_any A c _ W h
 have hx := be_256 (zt_len hB) (zt_lt hB)
 have c3 := fun w => Rest_any (be (zeros (32 - min n 32) ++ l.take (min n 32))) mN false w mN256 hx (by show _ + 2 ^ 256 * 0 < _; have := fld_N.gt; omega)
 have e0 : ∀ x : Nat, x + 2 ^ 256 * false.toNat = x := fun x => by show x + 2 ^ 256 * 0 = x; omega
 simp only [e0] at c3
 unfold scE
 by_cases h : n ≤ 32
 · rw [Nat.min_eq_left h] at c1 c3 ⊢
   exact dscal_le w (wds_len 4 _) (wds_len 4 mN) (wds_len 4 _) hB ⟨rfl, h⟩ (by omega) c1 DN_any c3
 · rw [Nat.min_eq_right (by omega)] at c1 c3 ⊢
   exact dscal_gt w (wds_len 4 _) (wds_len 4 mN) (wds_len 4 _) hB ⟨rfl, by omega⟩ rfl c1 DN_any c3
theorem d_key {w : World} {A : Option Addr} {n c : Nat} {l : List Nat} (hB : BIn w A n c l) :
   Calls Tryz.prog 8 #[.slice A n c] w fun e w' => e = .returned (.tuple #[keyV n l, .bool (decide (keyOk n l))]) ∧ Below w.heap.size w w' := by
 unfold keyV
 by_cases h : n = 65
 · subst h
   obtain ⟨⟨e1, e2⟩, e3, e4⟩ := dec65_dec l
   have kd : ∀ W, Below w.heap.size w W → Calls Tryz.prog 28 #[.slice A 65 c] W fun e w' => e = .returned (.tuple #[.agg (pv (keyA 65 l).1 (keyA 65 l).2.1 false).toArray, .int .i64 (dec65 l).2.2]) ∧ Below W.heap.size W w' := fun W hW => by
     have k := d_dec65 (hB.below hW)
     rw [e1, e2] at k
     exact k
   by_cases hk : keyOk 65 l
   · rw [decide_eq_true hk]
     have h0 : (dec65 l).2.2 = 0 := by
       rw [keyA_ok hk] at e3
       by_cases h0 : (dec65 l).2.2 = 0
       · exact h0
       · rw [if_neg h0] at e3; exact absurd (show (0 : Int) = 71 from e3) (by decide)
     exact dkey_ok w (keyA_x 65 l) (keyA_y 65 l) h0 kd
   · rw [decide_eq_false hk]
     have h0 : (dec65 l).2.2 ≠ 0 := fun h0 => by
       rw [keyA_no hk, if_pos h0] at e3; exact absurd e3 (by decide)
     exact dkey_no w (keyA_x 65 l) (keyA_y 65 l) h0 kd
 · have hk : ¬ keyOk n l := fun k => h k.1
   rw [keyA_no hk, decide_eq_false hk]
   exact dkey_len w h
theorem d_split {w : World} {A : Option Addr} {n c : Nat} {l : List Nat} (hB : BIn w A n c l) :
   Calls Tryz.prog 10 #[.slice A n c] w fun e w' => e = .returned (sigV n l) ∧ Below w.heap.size w w' := by
 unfold sigV sigA
 by_cases h : n = 64
 · subst h
   obtain ⟨b, o, rfl, _⟩ := hB.1.2.2.2.resolve_left (by omega)
   have hc := hB.2.1
   have hcm := hB.2.2.1
   have l1 : (l.take 32).length = 32 := by rw [List.length_take, hB.1.1]; rfl
   have l2 : ((l.drop 32).take 32).length = 32 := by rw [List.length_take, List.length_drop, hB.1.1]; rfl
   have b1 : ∀ x ∈ l.take 32, x < 256 := fun x hx => hB.1.2.2.1 x (List.mem_of_mem_take hx)
   have b2 : ∀ x ∈ (l.drop 32).take 32, x < 256 := fun x hx => hB.1.2.2.1 x (List.mem_of_mem_drop (List.mem_of_mem_take hx))
   have x1 : sigR l < 2 ^ 256 := be_256 l1 b1
   have x2 : sigS l < 2 ^ 256 := be_256 l2 b2
   have c1 : ∀ W, Below w.heap.size w W → Calls Tryz.prog 23 #[.slice (some ⟨b, o, none⟩) 32 c] W fun e w' => e = .returned (.agg (natsV .u64 (wds 4 (sigR l))).toArray) ∧ Below W.heap.size W w' := fun W hW => by
     have k := d_part hB (by omega) (f := 0) (by omega) W hW
     simp only [Nat.add_zero, List.drop_zero, Nat.sub_zero] at k
     exact k
   have c2 : ∀ W, Below w.heap.size w W → Calls Tryz.prog 23 #[.slice (some ⟨b, o + 32, none⟩) 32 (c - 32)] W fun e w' => e = .returned (.agg (natsV .u64 (wds 4 (sigS l))).toArray) ∧ Below W.heap.size W w' := fun W hW =>
     d_part hB (by omega) (f := 32) (by omega) W hW
   have c3 := fun w => Less_any (sigR l) mN w x1 mN256
   have c4 := fun w => Less_any (sigS l) mN w x2 mN256
   rw [if_pos rfl]
   have z1 := wds4_0 x1
   have z2 := wds4_0 x2
   have LR := wds_len 4 (sigR l)
   have LS := wds_len 4 (sigS l)
   have LN := wds_len 4 mN
   by_cases h1 : sigR l = 0
   · have hs : ¬ sigOk 64 l := fun k => k.2.1.1 h1
     rw [if_neg hs, wds0_]
     exact dsplit_r0 w LR LS LN hc hcm (z1.2 h1) c1 c2 DN_any c3 c4
   · by_cases h2 : sigS l = 0
     · have hs : ¬ sigOk 64 l := fun k => k.2.2.1 h2
       rw [if_neg hs, wds0_]
       exact dsplit_s0 w LR LS LN hc hcm (fun k => h1 (z1.1 k)) (z2.2 h2) c1 c2 DN_any c3 c4
     · by_cases h3 : sigR l < mN
       · rw [decide_eq_true h3] at c3
         by_cases h4 : sigS l < mN
         · rw [decide_eq_true h4] at c4
           have hs : sigOk 64 l := ⟨rfl, ⟨h1, h3⟩, ⟨h2, h4⟩⟩
           rw [if_pos hs]
           exact dsplit_ok (u1 := true) (u2 := true) w LR LS LN hc hcm (fun k => h1 (z1.1 k)) (fun k => h2 (z2.1 k)) c1 c2 DN_any c3 c4
         · rw [decide_eq_false h4] at c4
           have hs : ¬ sigOk 64 l := fun k => h4 k.2.2.2
           rw [if_neg hs, wds0_]
           exact dsplit_sl (u1 := true) (u2 := true) w LR LS LN hc hcm (fun k => h1 (z1.1 k)) (fun k => h2 (z2.1 k)) c1 c2 DN_any c3 c4
       · rw [decide_eq_false h3] at c3
         have hs : ¬ sigOk 64 l := fun k => h3 k.2.1.2
         rw [if_neg hs, wds0_]
         exact dsplit_rl (u1 := true) w LR LS LN hc hcm (fun k => h1 (z1.1 k)) (fun k => h2 (z2.1 k)) c1 c2 DN_any c3 c4
 · rw [if_neg h, wds0_]
   exact dsplit_len w h
theorem d_invN (s : Nat) (hs : s < 2 ^ 256) : Ans 39 #[.agg (natsV .u64 (wds 4 s)).toArray, .agg (natsV .u64 (wds 4 mN)).toArray] (.agg (natsV .u64 (wds 4 (wN s))).toArray) := fun w => by
 refine dwrap_84 (wds_len 4 s) (wds_len 4 mN) (wds_len 4 (mN - 2)) (wds_len 4 _) (fun w => ?_) (fun w => ?_) w
 · have h := dminus_any mN 2 w mN256 (by decide)
   rw [less_two mN mN2, ← num_lit2] at h
   exact h
 · exact Pow5_any s (mN - 2) mN w hs (Nat.lt_of_le_of_lt (Nat.sub_le _ _) mN256) mN256 fld_N.gt
theorem d_mulN (a b : Nat) (ha : a < 2 ^ 256) (hb : b < 2 ^ 256) : Ans 40 #[.agg (natsV .u64 (wds 4 a)).toArray, .agg (natsV .u64 (wds 4 b)).toArray, .agg (natsV .u64 (wds 4 mN)).toArray] (.agg (natsV .u64 (wds 4 (a * b % mN))).toArray) := fun w => Mul5_any a b mN w ha hb mN256 fld_N.gt
theorem wN_256 (s : Nat) : wN s < 2 ^ 256 := Nat.lt_trans (wN_lt s) mN256
theorem d_rest (x : Nat) (hx : x < 2 ^ 256) : Ans 18 #[.agg (natsV .u64 (wds 4 x)).toArray, .bool false, .agg (natsV .u64 (wds 4 mN)).toArray] (.agg (natsV .u64 (wds 4 (x % mN))).toArray) := fun w => by
 have k := Rest_any x mN false w mN256 hx (by show _ + 2 ^ 256 * 0 < _; have := fld_N.gt; omega)
 have e0 : x + 2 ^ 256 * false.toNat = x := by show x + 2 ^ 256 * 0 = x; omega
 rw [e0] at k
 exact k
theorem dbase_k : Ans 43 #[] (.agg (pv (nw gX) (nw gY) false).toArray) := fun w => dbase_any w
theorem d_verify {wk : World} {A1 A2 A3 : Option Addr} {n1 d1 n2 d2 n3 d3 : Nat} {l1 l2 l3 : List Nat} (h1 : BIn wk A1 n1 d1 l1) (h2 : BIn wk A2 n2 d2 l2) (h3 : BIn wk A3 n3 d3 l3) :
   Calls Tryz.prog 16 #[.slice A1 n1 d1, .slice A2 n2 d2, .slice A3 n3 d3] wk fun e w' => e = .returned (.int .i64 (verE n1 l1 n2 l2 n3 l3)) ∧ Below wk.heap.size wk w' := by
 unfold verE
 have ck := fun W hW => d_key (w := W) (h1.below hW)
 have cs := fun W hW => d_split (w := W) (h3.below hW)
 have cz := fun W hW => d_scalar (w := W) (h2.below hW)
 unfold keyV at ck
 unfold sigV at cs
 by_cases hk : keyOk n1 l1
 · rw [if_pos hk]
   rw [keyA_ok hk, decide_eq_true hk] at ck
   rcases sigA_cases n3 l3 with e | e | ⟨hs, e⟩
   · rw [e, if_neg (by decide)]
     rw [e, wds0_] at cs
     exact dver_sp72 (ia := true) (ib := true) wk (nw_len _) (nw_len _) ck cs
   · rw [e, if_neg (by decide)]
     rw [e, wds0_] at cs
     exact dver_sp73 (ia := true) (ib := true) wk (nw_len _) (nw_len _) ck cs
   · rw [e, if_pos rfl]
     rw [e] at cs
     obtain ⟨_, ⟨hr0, hr⟩, ⟨hs0, hs1⟩⟩ := hs
     generalize sigR l3 = r at *
     generalize sigS l3 = s at *
     generalize hz : scE n2 l2 = z at *
     have hz2 : z < 2 ^ 256 := hz ▸ scE_256 n2 l2
     have k2 := d_invN s (Nat.lt_trans hs1 mN256)
     have k3 := d_mulN z (wN s) hz2 (wN_256 s)
     have k4 := d_mulN r (wN s) (Nat.lt_trans hr mN256) (wN_256 s)
     have k5 := d_mulP on_gP (z * wN s % mN) (umod _ _)
     have k6 := d_mulP (keyOn hk) (r * wN s % mN) (umod _ _)
     have k7 := d_addP (EC.mul.on okP on_gP (z * wN s % mN)) (EC.mul.on okP (keyOn hk) (r * wN s % mN))
     rw [ptV_eq (EC.mul (z * wN s % mN) gP)] at k5 k7
     rw [ptV_eq (EC.mul (r * wN s % mN) (keyP l1))] at k6 k7
     have ksum : EC.sum (EC.mul (z * wN s % mN) gP) (EC.mul (r * wN s % mN) (keyP l1)) = sumE (keyP l1) z r s := rfl
     rw [ksum] at k7
     unfold verP
     cases hp : sumE (keyP l1) z r s with
     | inf =>
       rw [if_pos rfl]
       rw [hp] at k7
       exact dver_inf wk (nw_len _) (nw_len _) (wds_len 4 r) (wds_len 4 s) (wds_len 4 mN) (wds_len 4 _) (wds_len 4 z) (wds_len 4 _) (wds_len 4 _) (nw_len gX) (nw_len gY) (pX_len _) (pY_len _) (pX_len _) (pY_len _) ck cs DN_any k2 cz k3 k4 dbase_k k5 k6 k7
     | aff X Y =>
       rw [if_neg (by intro h; cases h)]
       rw [hp] at k7
       have k10 := d_rest X.val (lt256 X)
       show Calls Tryz.prog _ _ wk fun e w' => e = .returned (.int .i64 (if X.val % mN = r then 0 else 74)) ∧ _
       by_cases hq : X.val % mN = r
       · rw [if_pos hq]
         exact dver_ok wk (nw_len _) (nw_len _) (wds_len 4 r) (wds_len 4 s) (wds_len 4 mN) (wds_len 4 _) (wds_len 4 z) (wds_len 4 _) (wds_len 4 _) (nw_len gX) (nw_len gY) (pX_len _) (pY_len _) (pX_len _) (pY_len _) (nw_len X) (nw_len Y) (wds_len 4 _) (by rw [hq]) ck cs DN_any k2 cz k3 k4 dbase_k k5 k6 k7 k10
       · rw [if_neg hq]
         have hne : ¬ wds 4 (X.val % mN) = wds 4 r := fun h => hq (wds_in4 (Nat.lt_trans (Nat.mod_lt _ mNpos) mN256) (Nat.lt_trans hr mN256) h)
         exact dver_wr wk (nw_len _) (nw_len _) (wds_len 4 r) (wds_len 4 s) (wds_len 4 mN) (wds_len 4 _) (wds_len 4 z) (wds_len 4 _) (wds_len 4 _) (nw_len gX) (nw_len gY) (pX_len _) (pY_len _) (pX_len _) (pY_len _) (nw_len X) (nw_len Y) (wds_len 4 _) hne ck cs DN_any k2 cz k3 k4 dbase_k k5 k6 k7 k10
 · rw [if_neg hk]
   rw [keyA_no hk, decide_eq_false hk] at ck
   exact dver_key (ia := true) (ib := true) wk rfl rfl ck
theorem same_eq (a b : Option Addr) (n c d : Nat) (l : List Nat) (w : World) (ha : ByteRow w a n l) (hb : ByteRow w b n l) :
   Calls Tryz.prog 38 #[.slice a n c, .slice b n d] w fun e w' => e = .returned (.bool true) ∧ Below w.heap.size w w' := by
 obtain ⟨hl, hm, hlt, hra⟩ := ha
 obtain ⟨_, _, _, hrb⟩ := hb
 unfold maxLen at hm
 have HA := Hd hra
 have HB := Hd hrb
 clear hra hrb
 go_enter Tryz.func38, Tryz.ntmps38
 go_wp2
 go_loopw [5] (fun i wr => ∃ k : Nat, k ≤ n ∧ i = .int .i64 k ∧ Below w.heap.size w wr) (fun i _ => n - (intOf i).toNat)
 case atStart => exact ⟨0, Nat.zero_le _, rfl, Below.refl _ _⟩
 case round =>
   obtain ⟨k, hk, rfl, hbel⟩ := hrel
   by_cases hkn : k < n
   · obtain ⟨b1, o1, rfl, hc1⟩ := HA.out.resolve_left (by omega)
     obtain ⟨b2, o2, rfl, hc2⟩ := HB.out.resolve_left (by omega)
     have g1 := hc1 k hkn
     have g2 := hc2 k hkn
     have e1 : wr.cell? ⟨b1, o1 + k, none⟩ = some (.int .u8 (l.getD k 0 : Nat)) := (hbel.cell (World.block_lt_of_cell? w _ g1)).trans g1
     have e2 : wr.cell? ⟨b2, o2 + k, none⟩ = some (.int .u8 (l.getD k 0 : Nat)) := (hbel.cell (World.block_lt_of_cell? w _ g2)).trans g2
     clear hc1 hc2 g1 g2
     generalize l.getD k 0 = x at *
     have hki : (k : Int) < (n : Int) := by omega
     go_wp2_with fail
     go_quiet (fail)
     have hbel2 : Below w.heap.size w (wr.drewN nq) := ⟨hbel.os, hbel.tape, hbel.output, hbel.size, hbel.block⟩
     go_wp2
     go_roundw
     case rel => exact ⟨k + 1, by omega, by go_num, hbel2⟩
     case measure => simp [intOf]; omega
   · go_wp2
     go_ret
     exact ⟨rfl, hbel⟩
def OwnIs (l : List Nat) (w : World) (e : Ending) (w' : World) : Prop := ∃ G cap, e = .returned (.slice (some ⟨G, 0, none⟩) l.length cap) ∧ w'.ownsRow w.heap.size 5 1 (.slice (some ⟨G, 0, none⟩) (l.length + 1) cap) (l.length + 1) (bytesV (l ++ [77])) ∧ Below w.heap.size w w'
theorem own_any (a : Option Addr) (n c : Nat) (l : List Nat) (w : World) (hb : BIn w a n c l) (hn : n ≤ 140737488351232) :
   Calls Tryz.prog 13 #[.slice a n c] w (OwnIs l w) := by
 have HB := Hd (hb.below ((Below.refl _ _).alloc (Nat.le_refl _) (.cells #[] 5)))
 have HLN := Hd hb.1.1
 have hc1 := hb.2.1
 have hc2 := hb.2.2.1
 unfold maxLen at hc2
 have HZ := Hd (zero_row w)
 clear hb
 go_enter Tryz.func13, Tryz.ntmps13
 go_wp2_with (at_builtin; refine wpList_append_bytes _ rfl _ _ rfl w.heap.size (.slice (some ⟨w.heap.size, 0, none⟩) 0 0) 0 [] rfl HZ.out a n c l rfl HB.out ?c1 ?c2 ?_)
 case c1 => omega
 case c2 => simp
 intro v' w1 h1 h2
 have hb1 := ((Below.refl w.heap.size w).alloc (Nat.le_refl _) (.cells #[] 5)).grown h2 (by simp) (fun j hj => (HZ.out.lt j hj).1)
 have hsz := hb1.size
 have HO := Hd (h1.alloc (.cells #[.int .u8 (77 : Nat)] 5))
 have HN := Hd (bin_one w1 77 (by decide))
 have hbel := hb1.alloc hsz (.cells #[.int .u8 (77 : Nat)] 5)
 clear h1 h2 HB HZ hb1
 go_wp2_with (at_builtin; refine wpList_append_bytes _ rfl _ _ rfl w.heap.size v' n l rfl HO.out (some ⟨w1.heap.size, 0, none⟩) 1 1 [77] rfl HN.out ?d1 ?d2 ?_)
 case d1 => omega
 case d2 => simp; omega
 intro v2 w2 h1 h2
 have hb2 := hbel.grown h2 (by simp; omega) (fun j hj => (HO.out.lt j hj).1)
 clear HO HN hbel h2
 obtain ⟨G, cap, rfl, hcap⟩ : ∃ G cap, v2 = .slice (some ⟨G, 0, none⟩) (n + 1) cap ∧ n + 1 ≤ cap := by
   rcases h1.2 with ⟨he, h0⟩ | ⟨G, cap, cur, e1, e2, e3⟩
   · exact absurd h0 (by simp)
   · exact ⟨G, cap, e1, by omega⟩
 have HO2 := Hd h1
 clear h1
 have hk : (n : Int) ≤ (cap : Int) := by omega
 go_wp2_with fail
 go_ret
 refine ⟨G, cap, by rw [HLN.out]; rfl, ?_, hb2⟩
 rw [HLN.out]; exact HO2.out
theorem still_any (base : Nat) (a : Option Addr) (n c G cap : Nat) (l : List Nat) (w : World) (hb : BIn w a n c l) (h47 : n + 1 ≤ 140737488355328) (ho : w.ownsRow base 5 1 (.slice (some ⟨G, 0, none⟩) (n + 1) cap) (n + 1) (bytesV (l ++ [77]))) :
   Calls Tryz.prog 15 #[.slice (some ⟨G, 0, none⟩) n cap, .slice a n c] w fun e w' => e = .returned (.bool true) ∧ Below w.heap.size w w' := by
 have hu := ownM_in ho hb.1.2.2.1 hb.1.1 h47
 have HS := Hd (same_eq (some ⟨G, 0, none⟩) a n cap c l w hu.1 hb.1)
 have hcell := (own_cells ho).2 n (by omega)
 have hg : (l ++ [77]).getD n 0 = 77 := by have h := hb.1.1; subst h; simp [List.getD_eq_getElem?_getD]
 rw [Nat.zero_add, hg] at hcell
 clear hg
 obtain ⟨hcap, hcap2⟩ : n + 1 ≤ cap ∧ cap ≤ maxLen := by
   rcases ho.2 with ⟨h0, _⟩ | ⟨g, cp, cur, e1, e2, e3, e4, e5, _⟩
   · cases h0
   · simp only [Value.slice.injEq] at e1
     obtain ⟨_, _, rfl⟩ := e1
     exact ⟨by omega, by omega⟩
 have hc2 := hb.2.2.1
 have hc1 := hb.2.1
 unfold maxLen at hc2 hcap2
 clear hb ho hu
 go_enter Tryz.func15, Tryz.ntmps15
 go_wp2_with fail
 refine HS.out.mono ?_
 rintro e w1 ⟨rfl, hbel⟩
 have hc := (hbel.cell (World.block_lt_of_cell? w _ hcell)).trans hcell
 have i1 : (n : Int) + 1 ≤ (cap : Int) := by omega
 have i2 : (n : Int) < (n : Int) + 1 := by omega
 clear hcell HS
 go_wp2_with fail
 go_ret
 exact ⟨rfl, hbel⟩
set_option linter.unusedSimpArgs false
theorem own_is {w : World} {A : Option Addr} {n c : Nat} {l : List Nat} (hb : BIn w A n c l) (hn : n ≤ 140737488351232) :
   Calls Tryz.prog 13 #[.slice A n c] w fun e w' => ∃ G cap, e = .returned (.slice (some ⟨G, 0, none⟩) n cap) ∧ w'.ownsRow w.heap.size 5 1 (.slice (some ⟨G, 0, none⟩) (n + 1) cap) (n + 1) (bytesV (l ++ [77])) ∧ Below w.heap.size w w' := by
 have k := own_any A n c l w hb hn
 unfold OwnIs at k
 rw [hb.1.1] at k
 exact k
theorem verifies_any (A1 : Option Addr) (n1 d1 : Nat) (l1 : List Nat) (A2 : Option Addr) (n2 d2 : Nat) (l2 : List Nat) (A3 : Option Addr) (n3 d3 : Nat) (l3 : List Nat) (w : World) (h1 : BIn w A1 n1 d1 l1) (m1 : n1 ≤ 140737488351232) (h2 : BIn w A2 n2 d2 l2) (m2 : n2 ≤ 140737488351232) (h3 : BIn w A3 n3 d3 l3) (m3 : n3 ≤ 140737488351232) :
   Calls Tryz.prog 4 #[.slice A1 n1 d1, .slice A2 n2 d2, .slice A3 n3 d3] w fun e w' => e = .returned (.bool true) ∧ Below w.heap.size w w' := by
 have H1 := Hd h1
 have H2 := Hd h2
 have H3 := Hd h3
 have HAW := Hd k_awake7
 clear h1 h2 h3
 obtain ⟨ve, hve⟩ : ∃ ve, verE n1 l1 n2 l2 n3 l3 = ve := ⟨_, rfl⟩
 have HVE := Hd hve
 clear hve
 have hee : (ve == ve) = true := beq_self_eq_true ve
 go_enter Tryz.func4, Tryz.ntmps4
 go_wp2_with fail
 refine (HAW.out _).mono ?_
 rintro e w0 ⟨rfl, b0⟩
 have G1_ := Hd (H1.out.below b0)
 clear HAW
 go_wp2_with fail
 refine (own_is G1_.out m1).mono ?_
 rintro e w1 ⟨G1, p1, rfl, o1, c1⟩
 have O1 := Hd o1
 have b1 := b0.trans (c1.mono b0.size)
 have G2_ := Hd (H2.out.below b1)
 clear o1
 go_wp2_with fail
 refine (own_is G2_.out m2).mono ?_
 rintro e w2 ⟨G2, p2, rfl, o2, c2⟩
 have O2 := Hd o2
 have b2 := b1.trans (c2.mono b1.size)
 have N21 := Hd (own_below O1.out c2)
 clear o2 O1
 have O1 := N21
 have G3_ := Hd (H3.out.below b2)
 go_wp2_with fail
 refine (own_is G3_.out m3).mono ?_
 rintro e w3 ⟨G3, p3, rfl, o3, c3⟩
 have O3 := Hd o3
 have b3 := b2.trans (c3.mono b2.size)
 have N31 := Hd (own_below O1.out c3)
 clear o3 O1
 have O1 := N31
 have N32 := Hd (own_below O2.out c3)
 clear O2
 have O2 := N32
 have U1 := Hd (ownM_in O1.out H1.out.1.2.2.1 H1.out.1.1 (by omega))
 have U2 := Hd (ownM_in O2.out H2.out.1.2.2.1 H2.out.1.1 (by omega))
 have U3 := Hd (ownM_in O3.out H3.out.1.2.2.1 H3.out.1.1 (by omega))
 go_wp2_with fail
 refine (k_verify U1.out U2.out U3.out).mono ?_
 rintro e w4 ⟨rfl, c4⟩
 rw [HVE.out]
 have b4 := b3.trans (c4.mono b3.size)
 have S1 := Hd (still_any _ A1 n1 d1 G1 p1 l1 w4 (H1.out.below b4) (by omega) (own_below O1.out c4))
 go_wp2_with fail
 refine S1.out.mono ?_
 rintro e w5 ⟨rfl, c5⟩
 have b5 := b4.trans (c5.mono b4.size)
 have g5 := c4.trans (c5.mono c4.size)
 have S2 := Hd (still_any _ A2 n2 d2 G2 p2 l2 w5 (H2.out.below b5) (by omega) (own_below O2.out g5))
 go_wp2_with fail
 refine S2.out.mono ?_
 rintro e w6 ⟨rfl, c6⟩
 have b6 := b5.trans (c6.mono b5.size)
 have g6 := g5.trans (c6.mono g5.size)
 have S3 := Hd (still_any _ A3 n3 d3 G3 p3 l3 w6 (H3.out.below b6) (by omega) (own_below O3.out g6))
 go_wp2_with fail
 refine S3.out.mono ?_
 rintro e w7 ⟨rfl, c7⟩
 have b7 := b6.trans (c7.mono b6.size)
 have g7 := g6.trans (c7.mono g6.size)
 have DV := Hd (d_verify (H1.out.below b7) (H2.out.below b7) (H3.out.below b7))
 rw [HVE.out] at DV
 go_wp2_with fail
 refine DV.out.mono ?_
 rintro e w8 ⟨rfl, c8⟩
 have b8 := b7.trans (c8.mono b7.size)
 go_wp2_with fail
 go_ret
 exact ⟨rfl, b8⟩
open Go.ChangeShapes Go.WideShapes Go.ChangeAt Go.RowKit
theorem own : ownKnob Tryz.prog.godebug = none := by kernel_rfl
theorem laidOut : laidOutB Tryz.prog = true := by kernel_rfl
theorem u8_bounds {n : Int} (h : (Lit.int .u8 n).wf = true) : 0 ≤ n ∧ n < 256 := by
 have := bounds_u8 h; omega
theorem byteRow_in {H : Type} {enc : TypeId × Value → H} {W : World} {a : Option Addr} {len cap fuel : Nat} {x : DataW H × List MemPlace}
   (h : DataW.trod enc Tryz.prog W 0 (fun _ => true) true fuel 22 [Value.slice a len cap] = some x) : ∃ l, ByteRow W a len l := by
 rcases open_ints Tryz.underlying22 Tryz.underlying5 (by kernel_rfl) h with ⟨hcs, _⟩ | ⟨y, l, c, zs, hcs, _, hl, hm, hz, _, hcell, hwz⟩
 · simp only [List.cons.injEq, Value.slice.injEq, and_true] at hcs
   obtain ⟨rfl, rfl, rfl⟩ := hcs
   exact ⟨[], rfl, Nat.zero_le _, by simp, .inl rfl⟩
 · simp only [List.cons.injEq, Value.slice.injEq, and_true] at hcs
   obtain ⟨rfl, rfl, rfl⟩ := hcs
   simp only [if_true] at hz
   refine ⟨(zs.take len).map Int.toNat, by simp; omega, by omega, ?_, ?_⟩
   · intro n hn
     obtain ⟨z, hz1, rfl⟩ := List.mem_map.1 hn
     have := u8_bounds (hwz z (List.mem_of_mem_take hz1))
     omega
   · by_cases h0 : len = 0
     · exact .inl h0
     right
     obtain ⟨b, off, spot⟩ := y
     have hs := World.cell?_spot (hcell 0 (by omega))
     simp only [Addr.add] at hs
     subst hs
     refine ⟨b, off, rfl, fun i hi => ?_⟩
     have hc := hcell i (by omega)
     have ha : (Addr.mk b off none).add i = Addr.mk b (off + i) none := by
       simp only [Addr.add]; split
       · rename_i h; subst h; rfl
       · rfl
     rw [ha] at hc
     rw [hc]
     have hzi : zs.getD i 0 ∈ zs := by
       rw [List.getD_eq_getElem?_getD, List.getElem?_eq_getElem (by omega)]; exact List.getElem_mem _
     have hb := u8_bounds (hwz _ hzi)
     have e : ((zs.take len).map Int.toNat).getD i 0 = (zs.getD i 0).toNat := by
       simp only [List.getD_eq_getElem?_getD, List.getElem?_map, List.getElem?_take]
       rw [if_pos hi, List.getElem?_eq_getElem (by omega)]; rfl
     rw [e, Int.toNat_of_nonneg hb.1]
theorem bytes5 : Tryz.prog.bytesOf 5 = 1 := by kernel_rfl
theorem bin_in {H : Type} {enc : TypeId × Value → H} {W : World} {v : Value} {fuel : Nat} {x : DataW H × List MemPlace}
   (h : DataW.trod enc Tryz.prog W 0 (fun _ => true) true fuel 22 [v] = some x) (hr : ∀ k ∈ DataW.weights Tryz.prog 22 x.1, k ≤ reachBytes) :
   ∃ a n c l, v = .slice a n c ∧ BIn W a n c l ∧ n ≤ 140737488351232 := by
 rcases open_ints Tryz.underlying22 Tryz.underlying5 (by kernel_rfl) h with ⟨hcs, _⟩ | ⟨y, n, c, zs, hcs, _, hl, hm, hz, hx, hcell, hwz⟩
 · simp only [List.cons.injEq, and_true] at hcs
   subst hcs
   exact ⟨none, 0, 0, [], rfl, ⟨⟨rfl, Nat.zero_le _, by simp, .inl rfl⟩, Nat.le_refl _, Nat.zero_le _, by omega, fun _ => rfl⟩, by omega⟩
 · simp only [List.cons.injEq, and_true] at hcs
   subst hcs
   obtain ⟨l, hrow⟩ := byteRow_in h
   simp only [if_true] at hz
   have hb : c ≤ 140737488351232 := by
     have := hr (zs.length * 1) (by
       rw [hx]
       simp only [DataW.weights, Tryz.underlying22, bytes5]
       refine List.mem_cons.2 (.inl ?_)
       simp [lits]
       omega)
     rw [hz] at this
     simp only [reachBytes] at this
     omega
   exact ⟨some y, n, c, l, rfl, ⟨hrow, hl, hm, by omega, fun h => by cases h⟩, by omega⟩
end Go.Proofs.YtdkkombpkojjaaaGreat
