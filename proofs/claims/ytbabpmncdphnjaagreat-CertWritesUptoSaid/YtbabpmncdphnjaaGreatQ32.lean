/- Parts of proofs of statements, each text behind those that it stands on. No condition of its own. -/
import Derived.Test.YtbabpmncdphnjaaGreatQ31
namespace Go.Proofs.YtbabpmncdphnjaaGreat
open Go.RowKit
set_option linter.unusedVariables false
set_option maxRecDepth 100000
set_option linter.unusedSimpArgs false
noncomputable def eOf (R : Except Nat (List Nat)) : Int := match R with | .ok _ => 0 | .error q => (q : Nat)
noncomputable def bOf (R : Except Nat (List Nat)) : List Nat := match R with | .ok l => l | .error _ => []
def AnsB (z : Int) (b : List Nat) (w : World) (e : Ending) (w' : World) : Prop := ∃ a n c, e = .returned (.tuple #[.slice a n c, .int .i64 z]) ∧ BIn w' a n c b ∧ Below w.heap.size w w'
theorem ansB {R : Except Nat (List Nat)} {w : World} {e : Ending} {w' : World} (h : BytIs R w e w') : AnsB (eOf R) (bOf R) w e w' := by
  cases R with
  | ok l => obtain ⟨hb, a, c, h1, h2⟩ := h; exact ⟨a, _, c, h1, h2, hb⟩
  | error q => exact ⟨none, 0, 0, h.2.2, bin_empty _ _ _ (Nat.zero_le _) (fun _ => rfl), h.1⟩
theorem sameB_two (w : World) (a a' : Option Addr) (n c n' c' : Nat) (b : List Nat) (hb : BIn w a n c b) (hb' : BIn w a' n' c' b) :
    Calls Tryz.prog 8 #[.slice a n c, .slice a' n' c'] w fun e w' => e = .returned (.bool true) ∧ Below w.heap.size w w' :=
  (sameB_any w a a' n c n' c' b b hb hb').mono fun e w' h => ⟨by rw [h.1]; simp, h.2⟩
theorem whole_size : (Tryz.prog.info? 37).map (·.size) = some 9 := by kernel_rfl
set_option maxRecDepth 100000 in
set_option maxHeartbeats 16000000 in
theorem writes_any (w : World) (sn : Nat) (hsn : sn < 18446744073709551616) (is su : ByteArray) (his : is.size ≤ 140737488355328) (hsu : su.size ≤ 140737488355328) (ka : Option Addr) (kn kc : Nat) (kb : List Nat) (hk : BIn w ka kn kc kb) (xa : Option Addr) (n xc : Nat) (xs : List XV) (hx : XIn w xa n xc xs) (hn : n ≤ 1048576) (sa : Option Addr) (sl sc : Nat) (sb : List Nat) (hs : BIn w sa sl sc sb) (raw : Bool)
    (ya : Option Addr) (yn yc : Nat) (yb : List Nat) (hy : BIn w ya yn yc yb) (ga : Option Addr) (gn gc : Nat) (gb : List Nat) (hg : BIn w ga gn gc gb) (KB SG : List Nat) (hKB : (if raw then kb else padK 2017 yb) = KB) (hSG : (if raw then sb else padK 3373 gb) = SG) (hsl : SG.length ≤ 140737488351232)
    (hb1 : lkQ (strL is) (strL su) KB.length xs = 0 → 1 + (tbsK sn (strL is) (strL su) KB (exT xs)).sz ≤ 20000000) (hb2 : lkQ (strL is) (strL su) KB.length xs = 0 → SG.length = 3373 → 1 + (crtK sn (strL is) (strL su) KB SG (exT xs)).sz ≤ 20000000) :
    Calls Tryz.prog 4 #[.agg #[.int .u64 (sn : Nat), .string is, .string su, .slice ka kn kc, .slice xa n xc, .slice sa sl sc, .bool raw, .slice ya yn yc, .slice ga gn gc]] w fun e w' => e = .returned (.bool true) ∧ Below w.heap.size w w' := by
  have h00 := (Below.refl _ w).alloc (Nat.le_refl _) (.cells #[.int .u64 (sn : Nat), .string is, .string su, .slice ka kn kc, .slice xa n xc, .slice sa sl sc, .bool raw, .slice ya yn yc, .slice ga gn gc] 37)
  have HBX := Lib.hid (Blk.new w 37 [.int .u64 (sn : Nat), .string is, .string su, .slice ka kn kc, .slice xa n xc, .slice sa sl sc, .bool raw, .slice ya yn yc, .slice ga gn gc])
  have HWF := Lib.hid (WholeF (w.alloc (.cells #[.int .u64 (sn : Nat), .string is, .string su, .slice ka kn kc, .slice xa n xc, .slice sa sl sc, .bool raw, .slice ya yn yc, .slice ga gn gc] 37)) (sn : Nat) is su ka kn kc xa n xc sa sl sc ya yn yc ga gn gc raw kb sb yb gb (hk.below h00) (hs.below h00) (hy.below h00) (hg.below h00))
  rw [hKB, hSG] at HWF
  have H00 := Lib.hid h00
  have HX := Lib.hid (hx.below h00)
  have HIS := Lib.hid his
  have HSU := Lib.hid hsu
  have HSN := Lib.hid hsn
  have HN := Lib.hid hn
  have HSL := Lib.hid hsl
  have HB1 := Lib.hid hb1
  have HB2 := Lib.hid hb2
  clear h00 hk hx hs hy hg his hsu hsn hn hsl hb1 hb2 hKB hSG
  go_enter Tryz.func4, Tryz.ntmps4
  generalize hW0 : w.alloc (.cells #[.int .u64 (sn : Nat), .string is, .string su, .slice ka kn kc, .slice xa n xc, .slice sa sl sc, .bool raw, .slice ya yn yc, .slice ga gn gc] 37) = W0 at *
  go_upto_region 3 with (first
    | (refine wpList_load_row (P := Tryz.prog) rfl 37 (.tmp 1) rfl w.heap.size rfl 37 _ _ _ HBX.out Tryz.underlying37 rfl whole_size ?_)
    | (go_at_call 11; go_loud ((with_reducible refine HWF.out.mono ?_); rintro e w2 ⟨k1, m1, c1, s1, l1, d1, rfl, hkl, hsl, hk2, hs2, hb2⟩; have HKL := Lib.hid hkl; have HSG := Lib.hid hsl; have H02 := Lib.hid (H00.out.trans (Below.mono hb2 H00.out.size)); have HX2 := Lib.hid (HX.out.below hb2); have HK2 := Lib.hid hk2; have HS2 := Lib.hid hs2; clear hkl hsl hb2 hk2 hs2))
    | (refine wpList_store_row (P := Tryz.prog) rfl 26 (.tmp 3) (.tmp 17) rfl w2.heap.size #[.int .u64 (sn : Nat), .string is, .string su, .slice k1 m1 c1, .slice xa n xc, .slice s1 l1 d1] rfl rfl 26 _ (Blk.new w2 26 [.int .u64 0, .string { data := #[] }, .string { data := #[] }, .slice none 0 0, .slice none 0 0, .slice none 0 0]) info55 rfl (all_cert _ _ _ _ _ _ _ _ _ _ _ _) ?_; go_loud (have hb3 : Gr w2 ((w2.alloc (.cells #[.int .u64 0, .string { data := #[] }, .string { data := #[] }, .slice none 0 0, .slice none 0 0, .slice none 0 0] 26)).setRow w2.heap.size #[.int .u64 (sn : Nat), .string is, .string su, .slice k1 m1 c1, .slice xa n xc, .slice s1 l1 d1]) := below_setRow' (Gr.alloc w2 _) (Nat.le_refl _) _; have HBC := Lib.hid ((Blk.new w2 26 [.int .u64 0, .string { data := #[] }, .string { data := #[] }, .slice none 0 0, .slice none 0 0, .slice none 0 0]).setRow [.int .u64 (sn : Nat), .string is, .string su, .slice k1 m1 c1, .slice xa n xc, .slice s1 l1 d1]); have H03 := Lib.hid (H02.out.trans (Below.mono hb3 H02.out.size)); have HX3 := Lib.hid (HX2.out.below hb3); have HK3 := Lib.hid (HK2.out.below hb3); have HS3 := Lib.hid (HS2.out.below hb3); clear hb3; generalize (w2.alloc (.cells #[.int .u64 0, .string { data := #[] }, .string { data := #[] }, .slice none 0 0, .slice none 0 0, .slice none 0 0] 26)).setRow w2.heap.size #[.int .u64 (sn : Nat), .string is, .string su, .slice k1 m1 c1, .slice xa n xc, .slice s1 l1 d1] = w3 at *; generalize w2.heap.size = gC at *))
    | (refine wpList_load_row (P := Tryz.prog) rfl 26 (.tmp 3) rfl gC rfl 26 _ _ _ HBC.out Tryz.underlying26 rfl info55 ?_)
    | (go_at_call 12; go_loud ((with_reducible refine (copied_any w3 sn is su k1 m1 c1 KB HK3.out xa n xc xs HX3.out HN.out s1 l1 d1 SG HS3.out).mono ?_); rintro e w4 ⟨k3, k4, x1, x2, s3, s4, rfl, hk4, hx4, hs4, hb4⟩; have H04 := Lib.hid (H03.out.trans (Below.mono hb4 H03.out.size)); have HX4 := Lib.hid (HX3.out.below hb4); have HK4 := Lib.hid (HK3.out.below hb4); have HS4 := Lib.hid (HS3.out.below hb4); have HBC := Lib.hid (HBC.out.below' hb4); have HOK := Lib.hid hk4; have HOX := Lib.hid hx4; have HOS := Lib.hid hs4; clear hb4 hk4 hx4 hs4))
    | (refine wpList_store_row (P := Tryz.prog) rfl 26 (.tmp 4) (.tmp 19) rfl w4.heap.size #[.int .u64 (sn : Nat), .string is, .string su, .slice k3 m1 k4, .slice x1 n x2, .slice s3 l1 s4] rfl rfl 26 _ (Blk.new w4 26 [.int .u64 0, .string { data := #[] }, .string { data := #[] }, .slice none 0 0, .slice none 0 0, .slice none 0 0]) info55 rfl (all_cert _ _ _ _ _ _ _ _ _ _ _ _) ?_; go_loud (have hb5 : Gr w4 ((w4.alloc (.cells #[.int .u64 0, .string { data := #[] }, .string { data := #[] }, .slice none 0 0, .slice none 0 0, .slice none 0 0] 26)).setRow w4.heap.size #[.int .u64 (sn : Nat), .string is, .string su, .slice k3 m1 k4, .slice x1 n x2, .slice s3 l1 s4]) := below_setRow' (Gr.alloc w4 _) (Nat.le_refl _) _; have HBO := Lib.hid ((Blk.new w4 26 [.int .u64 0, .string { data := #[] }, .string { data := #[] }, .slice none 0 0, .slice none 0 0, .slice none 0 0]).setRow [.int .u64 (sn : Nat), .string is, .string su, .slice k3 m1 k4, .slice x1 n x2, .slice s3 l1 s4]); have HBC := Lib.hid (HBC.out.below' hb5); have H05 := Lib.hid (H04.out.trans (Below.mono hb5 H04.out.size)); have HX5 := Lib.hid (HX4.out.below hb5); have HK5 := Lib.hid (HK4.out.below hb5); have HS5 := Lib.hid (HS4.out.below hb5); have HOK5 := Lib.hid (HOK.out.below hb5); have HOX5 := Lib.hid (HOX.out.below hb5); have HOS5 := Lib.hid (HOS.out.below hb5); clear hb5; generalize (w4.alloc (.cells #[.int .u64 0, .string { data := #[] }, .string { data := #[] }, .slice none 0 0, .slice none 0 0, .slice none 0 0] 26)).setRow w4.heap.size #[.int .u64 (sn : Nat), .string is, .string su, .slice k3 m1 k4, .slice x1 n x2, .slice s3 l1 s4] = w5 at *; generalize w4.heap.size = gO at *)))
  have hkl := HKL.out
  have hsg := HSG.out
  obtain ⟨R1, hR1⟩ : ∃ R, signE sn (strL is) (strL su) m1 KB xs = R := ⟨_, rfl⟩
  obtain ⟨R2, hR2⟩ : ∃ R, bytesE sn (strL is) (strL su) m1 KB xs l1 SG = R := ⟨_, rfl⟩
  obtain ⟨E1, hE1⟩ : ∃ z, eOf R1 = z := ⟨_, rfl⟩
  obtain ⟨E2, hE2⟩ : ∃ z, eOf R2 = z := ⟨_, rfl⟩
  obtain ⟨B1, hB1⟩ : ∃ z, bOf R1 = z := ⟨_, rfl⟩
  obtain ⟨B2, hB2⟩ : ∃ z, bOf R2 = z := ⟨_, rfl⟩
  have HA := Lib.hid (show ∀ V, Gr w5 V → Calls Tryz.prog 13 #[.agg #[.int .u64 (sn : Nat), .string is, .string su, .slice k3 m1 k4, .slice x1 n x2, .slice s3 l1 s4]] V (AnsB E1 B1 V) from fun V hV => by
    rw [← hE1, ← hB1, ← hR1]
    exact (Signed_any V sn HSN.out is su _ _ rfl rfl HIS.out HSU.out k3 m1 k4 KB (HOK5.out.below hV) x1 n x2 xs (HOX5.out.below hV) s3 l1 s4 SG (HOS5.out.below hV) (fun x h => encE_err0 h)).mono fun e w' h => ansB h)
  have HB := Lib.hid (show ∀ V, Gr w5 V → Calls Tryz.prog 14 #[.agg #[.int .u64 (sn : Nat), .string is, .string su, .slice k3 m1 k4, .slice x1 n x2, .slice s3 l1 s4]] V (AnsB E2 B2 V) from fun V hV => by
    rw [← hE2, ← hB2, ← hR2]
    exact (Bytes_any V sn HSN.out is su _ _ rfl rfl HIS.out HSU.out k3 m1 k4 KB (HOK5.out.below hV) x1 n x2 xs (HOX5.out.below hV) s3 l1 s4 SG (HOS5.out.below hV) (fun x h => encE_err0 h)).mono fun e w' h => ansB h)
  have HC := Lib.hid (show ∀ V, Gr w5 V → Calls Tryz.prog 15 #[.agg #[.int .u64 (sn : Nat), .string is, .string su, .slice k1 m1 c1, .slice xa n xc, .slice s1 l1 d1]] V (AnsB E1 B1 V) from fun V hV => by
    rw [← hE1, ← hB1, ← hR1]
    exact (rSigned_any V sn HSN.out is su _ _ rfl rfl HIS.out HSU.out k1 m1 c1 KB (HK5.out.below hV) xa n xc xs (HX5.out.below hV) s1 l1 d1 SG (HS5.out.below hV) (by rw [← hkl]; exact HB1.out)).mono fun e w' h => ansB h)
  have HD := Lib.hid (show ∀ V, Gr w5 V → Calls Tryz.prog 16 #[.agg #[.int .u64 (sn : Nat), .string is, .string su, .slice k1 m1 c1, .slice xa n xc, .slice s1 l1 d1]] V (AnsB E2 B2 V) from fun V hV => by
    rw [← hE2, ← hB2, ← hR2]
    exact (rBytes_any V sn HSN.out is su _ _ rfl rfl HIS.out HSU.out k1 m1 c1 KB (HK5.out.below hV) xa n xc xs (HX5.out.below hV) s1 l1 d1 SG (HS5.out.below hV) (by rw [← hsg]; exact HSL.out) (by rw [← hkl, ← hsg]; exact HB2.out)).mono fun e w' h => ansB h)
  clear hkl hsg hE1 hE2 hB1 hB2 hR1 hR2 R1 R2
  have HG := Lib.hid (Gr.refl w5)
  go_wp2_with (first
    | (refine wpList_load_row (P := Tryz.prog) rfl 26 (.tmp 3) rfl gC rfl 26 _ _ _ (HBC.out.below' HG.out) Tryz.underlying26 rfl info55 ?_)
    | (refine wpList_load_row (P := Tryz.prog) rfl 26 (.tmp 4) rfl gO rfl 26 _ _ _ (HBO.out.below' HG.out) Tryz.underlying26 rfl info55 ?_)
    | (go_at_call 13; go_loud ((with_reducible refine (HA.out _ HG.out).mono ?_); rintro e v1 ⟨a1, n1, q1, rfl, hi1, hv1⟩; have HI1 := Lib.hid hi1; have HG := Lib.hid (HG.out.trans hv1); clear hi1 hv1))
    | (go_at_call 14; go_loud ((with_reducible refine (HB.out _ HG.out).mono ?_); rintro e v2 ⟨a2, n2, q2, rfl, hi2, hv2⟩; have HI2 := Lib.hid hi2; have HI1 := Lib.hid (HI1.out.below hv2); have HG := Lib.hid (HG.out.trans hv2); clear hi2 hv2))
    | (go_at_call 15; go_loud ((with_reducible refine (HC.out _ HG.out).mono ?_); rintro e v3 ⟨a3, n3, q3, rfl, hi3, hv3⟩; have HI3 := Lib.hid hi3; have HI1 := Lib.hid (HI1.out.below hv3); have HI2 := Lib.hid (HI2.out.below hv3); have HG := Lib.hid (HG.out.trans hv3); clear hi3 hv3))
    | (go_at_call 16; go_loud ((with_reducible refine (HD.out _ HG.out).mono ?_); rintro e v4 ⟨a4, n4, q4, rfl, hi4, hv4⟩; have HI4 := Lib.hid hi4; have HI1 := Lib.hid (HI1.out.below hv4); have HI2 := Lib.hid (HI2.out.below hv4); have HI3 := Lib.hid (HI3.out.below hv4); have HG := Lib.hid (HG.out.trans hv4); clear hi4 hv4))
    | (go_at_call 8; (first
        | ((with_reducible refine (sameB_two _ a1 a3 n1 q1 n3 q3 B1 HI1.out HI3.out).mono ?_); rintro e v5 ⟨rfl, hv5⟩; have HI2 := Lib.hid (HI2.out.below hv5); have HI4 := Lib.hid (HI4.out.below hv5); have HG := Lib.hid (HG.out.trans hv5); clear hv5)
        | ((with_reducible refine (sameB_two _ a2 a4 n2 q2 n4 q4 B2 HI2.out HI4.out).mono ?_); rintro e v6 ⟨rfl, hv6⟩; have HG := Lib.hid (HG.out.trans hv6); clear hv6)))
    | (go_at_call 7; go_loud (have y1 := HOK5.out.below HG.out; have y2 := HK5.out.below HG.out; have y3 := HOX5.out.below HG.out; have y4 := HX5.out.below HG.out; have y5 := HOS5.out.below HG.out; have y6 := HS5.out.below HG.out; (with_reducible refine (same13_eq _ (sn : Nat) is su k3 k1 m1 k4 c1 KB y1 y2 x1 xa n x2 xc xs y3 y4 s3 s1 l1 s4 d1 SG y5 y6).mono ?_); clear y1 y2 y3 y4 y5 y6; rintro e v7 ⟨rfl, hv7⟩; have HG := Lib.hid (HG.out.trans hv7); clear hv7))
    | (go_at_call 10; go_loud ((with_reducible refine (calive_any _).mono ?_); rintro e v8 ⟨rfl, hv8⟩; have HG := Lib.hid (HG.out.trans hv8); clear hv8)))
  go_ret
  exact ⟨rfl, H05.out.trans (Below.mono HG.out H05.out.size)⟩
end Go.Proofs.YtbabpmncdphnjaaGreat
namespace Go.Proofs.YtbabpmncdphnjaaGreat
open Go.RowKit
set_option linter.unusedVariables false
set_option maxRecDepth 100000
set_option linter.unusedSimpArgs false
theorem oid_len {l : List Nat} (h : oidOk l = true) : (oidB l).length ≤ 95 := by
  obtain ⟨_, h2, h3, _⟩ := oidOk_fl h
  have := figs_lenK h3
  unfold oidB
  omega
theorem extK_sz {v : Nat} (hv : v ≤ 4294967295) (cr : Bool) (l : List Nat) : (extK v cr l).sz ≤ l.length + 120 := by
  have h := oid_len (ext_ok hv)
  unfold extK
  cases cr
  · simp only [Tr.sz, Bool.false_eq_true, if_false]; omega
  · simp only [Tr.sz, if_true, List.length_cons, List.length_nil]; omega
theorem extT_sz (L : Nat) : ∀ xs : List XV, (∀ y ∈ xs, 1 ≤ y.1 ∧ y.1 ≤ 2147483647) → (∀ y ∈ xs, y.2.2.length ≤ L) → (extT xs).sz ≤ xs.length * (L + 130)
  | [], _, _ => by simp [extT, Tr.sz]
  | x :: r, h, hl => by
    have h1 := extT_sz L r (fun y hy => h y (List.mem_cons_of_mem _ hy)) (fun y hy => hl y (List.mem_cons_of_mem _ hy))
    have h2 := h x List.mem_cons_self
    have h3 := hl x List.mem_cons_self
    have h4 := extK_sz (v := x.1.toNat) (by omega) x.2.1 x.2.2
    simp only [extT, Tr.sz, List.length_nil, List.length_cons, Nat.succ_mul, Nat.add_mul, Nat.one_mul]
    omega
theorem exT_sz (xs : List XV) (hn : xs.length ≤ 16) (h : C2 xs) (hl : ∀ y ∈ xs, y.2.2.length ≤ 1048576) : (exT xs).sz ≤ 17000000 := by
  have h1 := extT_sz 1048576 xs (fun y hy => by
    obtain ⟨k, hk, e⟩ := List.getElem_of_mem hy
    exact h k y (by rw [List.getElem?_eq_getElem hk, e])) hl
  have h2 : xs.length * (1048576 + 130) ≤ 16 * (1048576 + 130) := Nat.mul_le_mul_right _ hn
  unfold exT
  split
  · simp [Tr.sz]
  · simp only [Tr.sz, List.length_nil]; omega
theorem tbs_sz {ib sb kb : List Nat} {kn sn : Nat} {xs : List XV} (h : lkQ ib sb kn xs = 0) (hk : kb.length = kn) (hs : sn < 18446744073709551616) (hl : ∀ y ∈ xs, y.2.2.length ≤ 1048576) : (tbsK sn ib sb kb (exT xs)).sz ≤ 17500000 := by
  obtain ⟨⟨h1, h2, h3, h4⟩, hc, _, _⟩ := lk_all h
  have h5 := exT_sz xs h4 hc hl
  have h6 := (of_decide_eq_true h1).2.1
  have h7 := (of_decide_eq_true h2).2.1
  have h8 := oid_len alg_ok
  have h9 := oid_len cn_ok
  have h10 : nb sn ≤ 9 := nb_le 8 sn (by omega)
  have h11 : nb 2 = 1 := nb_small (by decide)
  simp only [tbsK, verK, algK, namK, setT, cnT, timK, keyT, Tr.sz, be_length, List.length_cons, List.length_nil]
  omega
theorem crt_sz {ib sb kb sg : List Nat} {kn sn : Nat} {xs : List XV} (h : lkQ ib sb kn xs = 0) (hk : kb.length = kn) (hg : sg.length = 3373) (hs : sn < 18446744073709551616) (hl : ∀ y ∈ xs, y.2.2.length ≤ 1048576) : (crtK sn ib sb kb sg (exT xs)).sz ≤ 18000000 := by
  have h1 := tbs_sz h hk hs hl
  have h8 := oid_len alg_ok
  show (Tr.node 48 [] (tbsK sn ib sb kb (exT xs)) (.node 48 [] algK (.node 3 (0 :: sg) .nil .nil))).sz ≤ 18000000
  generalize tbsK sn ib sb kb (exT xs) = T at *
  simp only [algK, Tr.sz, List.length_cons, List.length_nil]
  omega
end Go.Proofs.YtbabpmncdphnjaaGreat
