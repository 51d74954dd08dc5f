/- Parts of proofs of statements, each text behind those that it stands on. No condition of its own. -/
import Derived.Test.YtbabpmncdphnjaaGreatQ15
import Derived.Test.YtbabpmncdphnjaaGreatQ16
namespace Go.Proofs.YtbabpmncdphnjaaGreat
open Go.RowKit
set_option linter.unusedVariables false
set_option maxRecDepth 100000
set_option linter.unusedSimpArgs false
theorem uint_k {sn : Nat} (hsn : sn < 18446744073709551616) {w : World} {a a' : Option Addr} {n c c' : Nat} (hin : ItIn w 2 a c a' c' (be (nb sn) sn) .nil) (hn : (be (nb sn) sn).length = n) : Calls Tryz.prog 67 #[.agg #[.int .u8 2, .slice a n c, .slice a' 0 c']] w fun e w' => e = .returned (.tuple #[.int .u64 (sn : Nat), .int .i64 0]) ∧ Below w.heap.size w w' := by
  subst hn
  have h := Uint_any w 2 (be (nb sn) sn) .nil a c a' c' hin
  obtain ⟨h1, h2, _⟩ := uok_be sn hsn
  obtain ⟨h3, h4⟩ := uint_good (b := be (nb sn) sn) (k := .nil) ⟨rfl, h1⟩
  rw [h2] at h3
  rw [h3, h4] at h
  exact h
theorem bits_k {kb : List Nat} {w : World} {a a' : Option Addr} {n m c c' : Nat} (hin : ItIn w 3 a c a' c' (0 :: kb) .nil) (hn : (0 :: kb).length = n) (hm : kb.length = m) : Calls Tryz.prog 70 #[.agg #[.int .u8 3, .slice a n c, .slice a' 0 c']] w fun e w' => ∃ x y, e = .returned (.tuple #[.slice x m y, .int .i64 0]) ∧ BIn w' x m y kb ∧ Below w.heap.size w w' := by
  subst hn hm
  have h := Bits_any w 3 (0 :: kb) .nil a c a' c' hin
  obtain ⟨h3, h4⟩ := bits_good (t := 3) (b := 0 :: kb) (k := .nil) ⟨rfl, rfl, by simp, rfl⟩
  rw [h3, h4] at h
  exact h
theorem BIn.rowK {w : World} {a : Option Addr} {n c g : Nat} {l : List Nat} {t : TypeId} {cs : List Value} (h : BIn w a n c l) (hb : Blk w g t cs) (hv : ∀ v ∈ cs, ∀ z, v ≠ .int .u8 z) (ds : Array Value) : BIn (w.setRow g ds) a n c l := by
  refine h.grown (grown_setRow w g ds) (fun b hab hn e => ?_)
  obtain ⟨b', o', hA, hc⟩ := h.1.2.2.2.resolve_left (by omega)
  rw [hab] at hA
  injection hA with hA
  subst hA
  have := hc 0 hn
  simp only at e
  subst e
  rw [hb.cell] at this
  exact hv _ (List.mem_of_getElem? this) _ rfl
set_option maxRecDepth 100000 in
set_option maxHeartbeats 16000000 in
theorem read_0 (w : World) (sn : Nat) (hsn : sn < 18446744073709551616) (ib sb kb sg : List Nat) (kn sl : Nat) (hkn : kb.length = kn) (hsl : sg.length = sl) (a a' : Option Addr) (n c c' : Nat) (hi : ItIn w 48 a c a' c' [] (crtK sn ib sb kb sg .nil)) : Calls Tryz.prog 34 #[.agg #[.int .u8 48, .slice a n c, .slice a' 3 c']] w fun e w' =>
    ∃ ka kc sa sc, e = .returned (certV sn (strV ib) (strV sb) ka kn kc none 0 0 sa sl sc) ∧ BIn w' ka kn kc kb ∧ BIn w' sa sl sc sg ∧ Below w.heap.size w w' := by
  obtain ⟨g1, o1, rfl, hr1⟩ := hi.2.2.addr (by simp [Tr.len])
  obtain ⟨n6, hn6⟩ : ∃ q, (0 :: sg).length = q := ⟨_, rfl⟩
  obtain ⟨n7, hn7⟩ : ∃ q, (be (nb sn) sn).length = q := ⟨_, rfl⟩
  obtain ⟨n8, hn8⟩ : ∃ q, (0 :: kb).length = q := ⟨_, rfl⟩
  obtain ⟨x1, y1, x2, y2, r1, i1⟩ := row_at (A := .nil) (i := 0) (r := .node 48 [] algK (.node 3 (0 :: sg) .nil .nil)) hr1 rfl rfl rfl 48 rfl o1 rfl (n := 0) (m := 7)
  obtain ⟨x3, y3, x4, y4, r2, i2⟩ := row_at (A := .node 48 [] (tbsK sn ib sb kb .nil) .nil) (i := 1) (r := .node 3 (0 :: sg) .nil .nil) hr1 rfl rfl rfl 48 rfl (o1 + 3) rfl (n := 0) (m := 1)
  obtain ⟨a6, c6, x6, y6, r3, i3⟩ := row_at (A := .node 48 [] (tbsK sn ib sb kb .nil) (.node 48 [] algK .nil)) (i := 2) (r := .nil) hr1 rfl hn6 rfl 3 rfl (o1 + 6) rfl (m := 0)
  obtain ⟨g2, o2, rfl, hr2⟩ := i1.2.2.addr (by simp [Tr.len])
  obtain ⟨v1, u1, v2, u2, s1, j1⟩ := row_at (A := .nil) (i := 0) (r := .node 2 (be (nb sn) sn) .nil (.node 48 [] algK (.node 48 [] (namK ib) (.node 48 [] timK (.node 48 [] (namK sb) (.node 48 [] (keyT kb) .nil)))))) hr2 rfl rfl rfl 160 rfl o2 rfl (n := 0) (m := 1)
  obtain ⟨a7, c7, v3, u3, s2, j2⟩ := row_at (A := .node 160 [] verK .nil) (i := 1) (r := .node 48 [] algK (.node 48 [] (namK ib) (.node 48 [] timK (.node 48 [] (namK sb) (.node 48 [] (keyT kb) .nil))))) hr2 rfl hn7 rfl 2 rfl (o2 + 3) rfl (m := 0)
  obtain ⟨v4, u4_, v5, u5_, s3, j3⟩ := row_at (A := .node 160 [] verK (.node 2 (be (nb sn) sn) .nil .nil)) (i := 2) (r := .node 48 [] (namK ib) (.node 48 [] timK (.node 48 [] (namK sb) (.node 48 [] (keyT kb) .nil)))) hr2 rfl rfl rfl 48 rfl (o2 + 6) rfl (n := 0) (m := 1)
  obtain ⟨v6, u6_, v7, u7_, s4, j4⟩ := row_at (A := .node 160 [] verK (.node 2 (be (nb sn) sn) .nil (.node 48 [] algK .nil))) (i := 3) (r := .node 48 [] timK (.node 48 [] (namK sb) (.node 48 [] (keyT kb) .nil))) hr2 rfl rfl rfl 48 rfl (o2 + 9) rfl (n := 0) (m := 1)
  obtain ⟨v8, u8_, v9, u9_, s5, j5⟩ := row_at (A := .node 160 [] verK (.node 2 (be (nb sn) sn) .nil (.node 48 [] algK (.node 48 [] (namK ib) .nil)))) (i := 4) (r := .node 48 [] (namK sb) (.node 48 [] (keyT kb) .nil)) hr2 rfl rfl rfl 48 rfl (o2 + 12) rfl (n := 0) (m := 2)
  obtain ⟨v10, u10_, v11, u11_, s6, j6⟩ := row_at (A := .node 160 [] verK (.node 2 (be (nb sn) sn) .nil (.node 48 [] algK (.node 48 [] (namK ib) (.node 48 [] timK .nil))))) (i := 5) (r := .node 48 [] (keyT kb) .nil) hr2 rfl rfl rfl 48 rfl (o2 + 15) rfl (n := 0) (m := 1)
  obtain ⟨v12, u12_, v13, u13_, s7, j7⟩ := row_at (A := .node 160 [] verK (.node 2 (be (nb sn) sn) .nil (.node 48 [] algK (.node 48 [] (namK ib) (.node 48 [] timK (.node 48 [] (namK sb) .nil)))))) (i := 6) (r := .nil) hr2 rfl rfl rfl 48 rfl (o2 + 18) rfl (n := 0) (m := 2)
  obtain ⟨g3, o3, rfl, hr3⟩ := j7.2.2.addr (by simp [Tr.len])
  obtain ⟨z1, q1, z2, q2, t1, l1⟩ := row_at (A := .nil) (i := 0) (r := .node 3 (0 :: kb) .nil .nil) hr3 rfl rfl rfl 48 rfl o3 rfl (n := 0) (m := 1)
  obtain ⟨a8, c8, z3, q3, t2, l2⟩ := row_at (A := .node 48 [] algK .nil) (i := 1) (r := .nil) hr3 rfl hn8 rfl 3 rfl (o3 + 3) rfl (m := 0)
  have R1 := Lib.hid r1; have R2 := Lib.hid r2; have R3 := Lib.hid r3
  have I2 := Lib.hid i2; have I3 := Lib.hid i3
  have S1 := Lib.hid s1; have S2 := Lib.hid s2; have S3 := Lib.hid s3; have S4 := Lib.hid s4; have S5 := Lib.hid s5; have S6 := Lib.hid s6; have S7 := Lib.hid s7
  have J1 := Lib.hid j1; have J2 := Lib.hid j2; have J3 := Lib.hid j3; have J4 := Lib.hid j4; have J5 := Lib.hid j5; have J6 := Lib.hid j6
  have T1 := Lib.hid t1; have T2 := Lib.hid t2; have L1 := Lib.hid l1; have L2 := Lib.hid l2
  have HY2 := Lib.hid (show 7 ≤ y2 from i1.2.2.1.1)
  have HN6 := Lib.hid hn6; have HN7 := Lib.hid hn7; have HN8 := Lib.hid hn8
  have HSN := Lib.hid hsn; have HKN := Lib.hid hkn; have HSL := Lib.hid hsl
  have H00 := Lib.hid (((Below.refl _ w).alloc (Nat.le_refl _) (.cells #[.int .u8 48, .slice a n c, .slice (some ⟨g1, o1, none⟩) 3 c'] 45)).alloc (by simp) (.cells #[.int .u64 0, .string { data := #[] }, .string { data := #[] }, .slice none 0 0, .slice none 0 0, .slice none 0 0] 26))
  have HBX := Lib.hid ((Blk.new w 45 [.int .u8 48, .slice a n c, .slice (some ⟨g1, o1, none⟩) 3 c']).alloc (.cells #[.int .u64 0, .string { data := #[] }, .string { data := #[] }, .slice none 0 0, .slice none 0 0, .slice none 0 0] 26))
  have HRS := Lib.hid (Blk.new2 w (.cells #[.int .u8 48, .slice a n c, .slice (some ⟨g1, o1, none⟩) 3 c'] 45) 26 [.int .u64 0, .string { data := #[] }, .string { data := #[] }, .slice none 0 0, .slice none 0 0, .slice none 0 0])
  have HS0 := Lib.hid (show w.heap.size + 2 ≤ ((w.alloc (.cells #[.int .u8 48, .slice a n c, .slice (some ⟨g1, o1, none⟩) 3 c'] 45)).alloc (.cells #[.int .u64 0, .string { data := #[] }, .string { data := #[] }, .slice none 0 0, .slice none 0 0, .slice none 0 0] 26)).heap.size by simp)
  clear hi hr1 r1 r2 r3 i1 i2 i3 hr2 s1 s2 s3 s4 s5 s6 s7 j1 j2 j3 j4 j5 j6 j7 hr3 t1 t2 l1 l2 hn6 hn7 hn8 hsn hkn hsl
  go_enter Tryz.func34, Tryz.ntmps34
  generalize hW0 : (w.alloc (.cells #[.int .u8 48, .slice a n c, .slice (some ⟨g1, o1, none⟩) 3 c'] 45)).alloc (.cells #[.int .u64 0, .string { data := #[] }, .string { data := #[] }, .slice none 0 0, .slice none 0 0, .slice none 0 0] 26) = W0 at *
  go_wp2_with (first | (refine wpList_load_row (P := Tryz.prog) rfl 45 (.tmp 1) rfl w.heap.size rfl 45 _ _ _ HBX.out Tryz.underlying45 rfl info25 ?_) | (go_at_call 60; (with_reducible refine (parts_ok 48 48 rfl _ _ _ _ _ _ 3 3 3 3 rfl rfl (by decide) (by decide) _).mono ?_); rintro e w2 ⟨rfl, hb2⟩; have HRS := Lib.hid (HRS.out.below' hb2); have H00 := Lib.hid (H00.out.trans (Below.mono hb2 H00.out.size)); clear hb2) | (go_at_call 59; (with_reducible refine (formedK_ok (some ⟨g1, o1, none⟩, 3, c') _).mono ?_); rintro e w_ ⟨rfl, rfl⟩) | (refine ldI rfl (.tmp 12) rfl g1 o1 rfl _ _ _ (rangeAt_below R1.out H00.out) ?_) | (go_at_call 60; (with_reducible refine (parts_ok 48 48 rfl _ _ _ _ _ _ 7 8 7 8 rfl rfl (by decide) (by decide) _).mono ?_); rintro e w4 ⟨rfl, hb4⟩; have HRS := Lib.hid (HRS.out.below' hb4); have H00 := Lib.hid (H00.out.trans (Below.mono hb4 H00.out.size)); clear hb4) | (go_at_call 59; (with_reducible refine (formedK_ok (some ⟨g2, o2, none⟩, 7, y2) _).mono ?_); rintro e w_ ⟨rfl, rfl⟩) | (refine ldI rfl (.tmp 19) rfl g2 (o2 + 18) rfl _ _ _ (rangeAt_below S7.out H00.out) ?_) | (go_at_call 60; (with_reducible refine (parts_ok 48 48 rfl _ _ _ _ _ _ 2 2 2 2 rfl rfl (by decide) (by decide) _).mono ?_); rintro e w6 ⟨rfl, hb6⟩; have HRS := Lib.hid (HRS.out.below' hb6); have H00 := Lib.hid (H00.out.trans (Below.mono hb6 H00.out.size)); clear hb6) | (go_at_call 59; (with_reducible refine (formedK_ok (some ⟨g3, o3, none⟩, 2, u13_) _).mono ?_); rintro e w_ ⟨rfl, rfl⟩))
  have HS0 := Lib.hid (Nat.zero_le w6.heap.size)
  refine wp_region_L (fun w_ => Below w6.heap.size w6 w_) [] [0, 1, 5, 6] (by kernel_rfl) (Below.refl _ _).drew ?_
  refine wpAnyL_pure (fun _ _ hS_ hb_ => gr_bel hS_ hb_) (i := 0) rfl (by kernel_rfl) (fun _ _ _ h => h) (pureG (by rfl) (by intro w_; go_simp; first | done | with_reducible rfl)) ?_
  try simp only [Act.put, List.getElem_toArray, List.getElem_cons_succ, List.getElem_cons_zero, List.setIfInBounds_toArray, List.set_cons_zero, List.set_cons_succ]
  refine wpAnyL_pure (fun _ _ hS_ hb_ => gr_bel hS_ hb_) (i := 1) rfl (by kernel_rfl) (fun _ _ _ h => h) (pureG (by rfl) (by intro w_; go_simp; first | done | with_reducible rfl)) ?_
  try simp only [Act.put, List.getElem_toArray, List.getElem_cons_succ, List.getElem_cons_zero, List.setIfInBounds_toArray, List.set_cons_zero, List.set_cons_succ]
  refine wpAnyL_take (fun _ _ hS_ hb_ => gr_bel hS_ hb_) (i := 2) rfl (by kernel_rfl) (fun _ _ _ h => h) (loadG (by rfl) _ _ rfl g1 (o1 + 3) rfl [.int .u8 48, .slice x3 0 y3, .slice x4 1 y4] _ (fun w_ hS_ => rangeAt_below (rangeAt_below R2.out H00.out) hS_) Tryz.underlying45 rfl info25) ?_
  try simp only [Act.put, List.getElem_toArray, List.getElem_cons_succ, List.getElem_cons_zero, List.setIfInBounds_toArray, List.set_cons_zero, List.set_cons_succ]
  refine wpAnyL_one (i := 3) (by kernel_rfl) (by decide) fun V1 hv1 hS1 => ?_
  have HSV1 : 0 ≤ V1.heap.size := by { have h1 := hS1.size; have h2 := HS0.out; omega }
  refine wpOp_callE (i := 3) rfl (by rfl) rfl Tryz.func63 (by kernel_rfl) (by kernel_rfl) #[] (by simp [Act.eval]) ((itB (base := 0) (ofAlgorithm_d V1) (Nat.zero_le _) (fun _ h => h.elim)).mono ?_)
  rintro e w1 ⟨a1, n1, c1, b1, m1, d1, hn1, hm1, rfl, hd1, hb1⟩
  have HN1 := Lib.hid hn1; have HM1 := Lib.hid hm1; clear hn1 hm1
  have HD1 := Lib.hid hd1; clear hd1
  refine ⟨_, rfl, Gr.trans hS1 hb1, ?_⟩
  try simp only [Act.put, List.getElem_toArray, List.getElem_cons_succ, List.getElem_cons_zero, List.setIfInBounds_toArray, List.set_cons_zero, List.set_cons_succ]
  refine wpAnyL_one (i := 4) (by kernel_rfl) (by decide) fun V2 hv2 hS2 => ?_
  have HSV2 : 0 ≤ V2.heap.size := by { have h1 := hS2.size; have h2 := HS0.out; omega }
  replace HD1 := Lib.hid (HD1.out.below hv2)
  refine wpOp_callE (i := 4) rfl (by rfl) rfl Tryz.func62 (by kernel_rfl) (by kernel_rfl) #[.agg #[.int .u8 48, .slice x3 0 y3, .slice x4 1 y4], itV 48 a1 n1 c1 b1 m1 d1] (by simp [Act.eval]) ((one_ok V2 48 48 rfl [] algK x3 x4 a1 b1 0 1 n1 m1 y3 y4 c1 d1 rfl rfl HN1.out HM1.out (I2.out.below (Below.trans H00.out (Below.mono hS2 H00.out.size))) HD1.out.now _ rfl).mono ?_)
  rintro e w2 ⟨rfl, hb2⟩
  replace HD1 := Lib.hid (HD1.out.below hb2)
  refine ⟨_, rfl, Gr.trans hS2 hb2, ?_⟩
  try simp only [Act.put, List.getElem_toArray, List.getElem_cons_succ, List.getElem_cons_zero, List.setIfInBounds_toArray, List.set_cons_zero, List.set_cons_succ]
  refine wpAnyL_pure (fun _ _ hS_ hb_ => gr_bel hS_ hb_) (i := 5) rfl (by kernel_rfl) (fun _ _ _ h => h) (pureG (by rfl) (by intro w_; go_simp; first | done | with_reducible rfl)) ?_
  try simp only [Act.put, List.getElem_toArray, List.getElem_cons_succ, List.getElem_cons_zero, List.setIfInBounds_toArray, List.set_cons_zero, List.set_cons_succ]
  refine wpAnyL_pure (fun _ _ hS_ hb_ => gr_bel hS_ hb_) (i := 6) rfl (by kernel_rfl) (fun _ _ _ h => h) (pureG (by rfl) (by intro w_; go_simp; first | done | with_reducible rfl)) ?_
  try simp only [Act.put, List.getElem_toArray, List.getElem_cons_succ, List.getElem_cons_zero, List.setIfInBounds_toArray, List.set_cons_zero, List.set_cons_succ]
  refine wpAnyL_one (i := 7) (by kernel_rfl) (by decide) fun V3 hv3 hS3 => ?_
  have HSV3 : 0 ≤ V3.heap.size := by { have h1 := hS3.size; have h2 := HS0.out; omega }
  replace HD1 := Lib.hid (HD1.out.below hv3)
  refine wpOp_callE (i := 7) rfl (by rfl) rfl Tryz.func61 (by kernel_rfl) (by kernel_rfl) #[.agg #[.int .u8 48, .slice x3 0 y3, .slice x4 1 y4], .int .i64 0] (by simp [Act.eval]) ((formedI_ok _ _ _ _ _ _ _ V3).mono ?_)
  rintro e w3 ⟨rfl, hb3⟩
  replace HD1 := Lib.hid (HD1.out.below hb3)
  refine ⟨_, rfl, Gr.trans hS3 hb3, ?_⟩
  try simp only [Act.put, List.getElem_toArray, List.getElem_cons_succ, List.getElem_cons_zero, List.setIfInBounds_toArray, List.set_cons_zero, List.set_cons_succ]
  have hSZ := Below.trans hS3 (Below.mono hb3 (Below.size hS3))
  refine wpAnyL_done (by kernel_rfl) ?_ _
  intro W14 hg
  have hBZ := Below.trans hSZ (Below.mono hg (Below.size hSZ))
  replace H00 := Lib.hid (H00.out.trans (Below.mono hBZ H00.out.size))
  replace HRS := Lib.hid (HRS.out.below' hBZ)
  clear hBZ hg hSZ hb1 hb2 hb3 hS1 hS2 hS3 hv1 hv2 hv3 HN1 HM1 HD1 HSV1 HSV2 HSV3 HS0
  go_wp2_with fail
  have HS0 := Lib.hid (Nat.zero_le W14.heap.size)
  refine wp_region_L (fun w_ => Below W14.heap.size W14 w_) [] [0, 1, 5, 6] (by kernel_rfl) (Below.refl _ _).drew ?_
  refine wpAnyL_pure (fun _ _ hS_ hb_ => gr_bel hS_ hb_) (i := 0) rfl (by kernel_rfl) (fun _ _ _ h => h) (pureG (by rfl) (by intro w_; go_simp; first | done | with_reducible rfl)) ?_
  try simp only [Act.put, List.getElem_toArray, List.getElem_cons_succ, List.getElem_cons_zero, List.setIfInBounds_toArray, List.set_cons_zero, List.set_cons_succ]
  refine wpAnyL_pure (fun _ _ hS_ hb_ => gr_bel hS_ hb_) (i := 1) rfl (by kernel_rfl) (fun _ _ _ h => h) (pureG (by rfl) (by intro w_; go_simp; first | done | with_reducible rfl)) ?_
  try simp only [Act.put, List.getElem_toArray, List.getElem_cons_succ, List.getElem_cons_zero, List.setIfInBounds_toArray, List.set_cons_zero, List.set_cons_succ]
  refine wpAnyL_take (fun _ _ hS_ hb_ => gr_bel hS_ hb_) (i := 2) rfl (by kernel_rfl) (fun _ _ _ h => h) (loadG (by rfl) _ _ rfl g2 o2 rfl [.int .u8 160, .slice v1 0 u1, .slice v2 1 u2] _ (fun w_ hS_ => rangeAt_below (rangeAt_below S1.out H00.out) hS_) Tryz.underlying45 rfl info25) ?_
  try simp only [Act.put, List.getElem_toArray, List.getElem_cons_succ, List.getElem_cons_zero, List.setIfInBounds_toArray, List.set_cons_zero, List.set_cons_succ]
  refine wpAnyL_one (i := 3) (by kernel_rfl) (by decide) fun V1 hv1 hS1 => ?_
  have HSV1 : 0 ≤ V1.heap.size := by { have h1 := hS1.size; have h2 := HS0.out; omega }
  refine wpOp_callE (i := 3) rfl (by rfl) rfl Tryz.func64 (by kernel_rfl) (by kernel_rfl) #[] (by simp [Act.eval]) ((itB (base := 0) (ofVersion_d V1) (Nat.zero_le _) (fun _ h => h.elim)).mono ?_)
  rintro e w1 ⟨a1, n1, c1, b1, m1, d1, hn1, hm1, rfl, hd1, hb1⟩
  have HN1 := Lib.hid hn1; have HM1 := Lib.hid hm1; clear hn1 hm1
  have HD1 := Lib.hid hd1; clear hd1
  refine ⟨_, rfl, Gr.trans hS1 hb1, ?_⟩
  try simp only [Act.put, List.getElem_toArray, List.getElem_cons_succ, List.getElem_cons_zero, List.setIfInBounds_toArray, List.set_cons_zero, List.set_cons_succ]
  refine wpAnyL_one (i := 4) (by kernel_rfl) (by decide) fun V2 hv2 hS2 => ?_
  have HSV2 : 0 ≤ V2.heap.size := by { have h1 := hS2.size; have h2 := HS0.out; omega }
  replace HD1 := Lib.hid (HD1.out.below hv2)
  refine wpOp_callE (i := 4) rfl (by rfl) rfl Tryz.func62 (by kernel_rfl) (by kernel_rfl) #[.agg #[.int .u8 160, .slice v1 0 u1, .slice v2 1 u2], itV 160 a1 n1 c1 b1 m1 d1] (by simp [Act.eval]) ((one_ok V2 160 160 rfl [] verK v1 v2 a1 b1 0 1 n1 m1 u1 u2 c1 d1 rfl rfl HN1.out HM1.out (J1.out.below (Below.trans H00.out (Below.mono hS2 H00.out.size))) HD1.out.now _ rfl).mono ?_)
  rintro e w2 ⟨rfl, hb2⟩
  replace HD1 := Lib.hid (HD1.out.below hb2)
  refine ⟨_, rfl, Gr.trans hS2 hb2, ?_⟩
  try simp only [Act.put, List.getElem_toArray, List.getElem_cons_succ, List.getElem_cons_zero, List.setIfInBounds_toArray, List.set_cons_zero, List.set_cons_succ]
  refine wpAnyL_pure (fun _ _ hS_ hb_ => gr_bel hS_ hb_) (i := 5) rfl (by kernel_rfl) (fun _ _ _ h => h) (pureG (by rfl) (by intro w_; go_simp; first | done | with_reducible rfl)) ?_
  try simp only [Act.put, List.getElem_toArray, List.getElem_cons_succ, List.getElem_cons_zero, List.setIfInBounds_toArray, List.set_cons_zero, List.set_cons_succ]
  refine wpAnyL_pure (fun _ _ hS_ hb_ => gr_bel hS_ hb_) (i := 6) rfl (by kernel_rfl) (fun _ _ _ h => h) (pureG (by rfl) (by intro w_; go_simp; first | done | with_reducible rfl)) ?_
  try simp only [Act.put, List.getElem_toArray, List.getElem_cons_succ, List.getElem_cons_zero, List.setIfInBounds_toArray, List.set_cons_zero, List.set_cons_succ]
  refine wpAnyL_one (i := 7) (by kernel_rfl) (by decide) fun V3 hv3 hS3 => ?_
  have HSV3 : 0 ≤ V3.heap.size := by { have h1 := hS3.size; have h2 := HS0.out; omega }
  replace HD1 := Lib.hid (HD1.out.below hv3)
  refine wpOp_callE (i := 7) rfl (by rfl) rfl Tryz.func61 (by kernel_rfl) (by kernel_rfl) #[.agg #[.int .u8 160, .slice v1 0 u1, .slice v2 1 u2], .int .i64 0] (by simp [Act.eval]) ((formedI_ok _ _ _ _ _ _ _ V3).mono ?_)
  rintro e w3 ⟨rfl, hb3⟩
  replace HD1 := Lib.hid (HD1.out.below hb3)
  refine ⟨_, rfl, Gr.trans hS3 hb3, ?_⟩
  try simp only [Act.put, List.getElem_toArray, List.getElem_cons_succ, List.getElem_cons_zero, List.setIfInBounds_toArray, List.set_cons_zero, List.set_cons_succ]
  have hSZ := Below.trans hS3 (Below.mono hb3 (Below.size hS3))
  refine wpAnyL_done (by kernel_rfl) ?_ _
  intro W15 hg
  have hBZ := Below.trans hSZ (Below.mono hg (Below.size hSZ))
  replace H00 := Lib.hid (H00.out.trans (Below.mono hBZ H00.out.size))
  replace HRS := Lib.hid (HRS.out.below' hBZ)
  clear hBZ hg hSZ hb1 hb2 hb3 hS1 hS2 hS3 hv1 hv2 hv3 HN1 HM1 HD1 HSV1 HSV2 HSV3 HS0
  go_wp2_with fail
  have HS0 := Lib.hid (Nat.zero_le W15.heap.size)
  refine wp_region_L (fun w_ => Below W15.heap.size W15 w_) [] [0, 1, 5, 6] (by kernel_rfl) (Below.refl _ _).drew ?_
  refine wpAnyL_pure (fun _ _ hS_ hb_ => gr_bel hS_ hb_) (i := 0) rfl (by kernel_rfl) (fun _ _ _ h => h) (pureG (by rfl) (by intro w_; go_simp; first | done | with_reducible rfl)) ?_
  try simp only [Act.put, List.getElem_toArray, List.getElem_cons_succ, List.getElem_cons_zero, List.setIfInBounds_toArray, List.set_cons_zero, List.set_cons_succ]
  refine wpAnyL_pure (fun _ _ hS_ hb_ => gr_bel hS_ hb_) (i := 1) rfl (by kernel_rfl) (fun _ _ _ h => h) (pureG (by rfl) (by intro w_; go_simp; first | done | with_reducible rfl)) ?_
  try simp only [Act.put, List.getElem_toArray, List.getElem_cons_succ, List.getElem_cons_zero, List.setIfInBounds_toArray, List.set_cons_zero, List.set_cons_succ]
  refine wpAnyL_take (fun _ _ hS_ hb_ => gr_bel hS_ hb_) (i := 2) rfl (by kernel_rfl) (fun _ _ _ h => h) (loadG (by rfl) _ _ rfl g2 (o2 + 6) rfl [.int .u8 48, .slice v4 0 u4_, .slice v5 1 u5_] _ (fun w_ hS_ => rangeAt_below (rangeAt_below S3.out H00.out) hS_) Tryz.underlying45 rfl info25) ?_
  try simp only [Act.put, List.getElem_toArray, List.getElem_cons_succ, List.getElem_cons_zero, List.setIfInBounds_toArray, List.set_cons_zero, List.set_cons_succ]
  refine wpAnyL_one (i := 3) (by kernel_rfl) (by decide) fun V1 hv1 hS1 => ?_
  have HSV1 : 0 ≤ V1.heap.size := by { have h1 := hS1.size; have h2 := HS0.out; omega }
  refine wpOp_callE (i := 3) rfl (by rfl) rfl Tryz.func63 (by kernel_rfl) (by kernel_rfl) #[] (by simp [Act.eval]) ((itB (base := 0) (ofAlgorithm_d V1) (Nat.zero_le _) (fun _ h => h.elim)).mono ?_)
  rintro e w1 ⟨a1, n1, c1, b1, m1, d1, hn1, hm1, rfl, hd1, hb1⟩
  have HN1 := Lib.hid hn1; have HM1 := Lib.hid hm1; clear hn1 hm1
  have HD1 := Lib.hid hd1; clear hd1
  refine ⟨_, rfl, Gr.trans hS1 hb1, ?_⟩
  try simp only [Act.put, List.getElem_toArray, List.getElem_cons_succ, List.getElem_cons_zero, List.setIfInBounds_toArray, List.set_cons_zero, List.set_cons_succ]
  refine wpAnyL_one (i := 4) (by kernel_rfl) (by decide) fun V2 hv2 hS2 => ?_
  have HSV2 : 0 ≤ V2.heap.size := by { have h1 := hS2.size; have h2 := HS0.out; omega }
  replace HD1 := Lib.hid (HD1.out.below hv2)
  refine wpOp_callE (i := 4) rfl (by rfl) rfl Tryz.func62 (by kernel_rfl) (by kernel_rfl) #[.agg #[.int .u8 48, .slice v4 0 u4_, .slice v5 1 u5_], itV 48 a1 n1 c1 b1 m1 d1] (by simp [Act.eval]) ((one_ok V2 48 48 rfl [] algK v4 v5 a1 b1 0 1 n1 m1 u4_ u5_ c1 d1 rfl rfl HN1.out HM1.out (J3.out.below (Below.trans H00.out (Below.mono hS2 H00.out.size))) HD1.out.now _ rfl).mono ?_)
  rintro e w2 ⟨rfl, hb2⟩
  replace HD1 := Lib.hid (HD1.out.below hb2)
  refine ⟨_, rfl, Gr.trans hS2 hb2, ?_⟩
  try simp only [Act.put, List.getElem_toArray, List.getElem_cons_succ, List.getElem_cons_zero, List.setIfInBounds_toArray, List.set_cons_zero, List.set_cons_succ]
  refine wpAnyL_pure (fun _ _ hS_ hb_ => gr_bel hS_ hb_) (i := 5) rfl (by kernel_rfl) (fun _ _ _ h => h) (pureG (by rfl) (by intro w_; go_simp; first | done | with_reducible rfl)) ?_
  try simp only [Act.put, List.getElem_toArray, List.getElem_cons_succ, List.getElem_cons_zero, List.setIfInBounds_toArray, List.set_cons_zero, List.set_cons_succ]
  refine wpAnyL_pure (fun _ _ hS_ hb_ => gr_bel hS_ hb_) (i := 6) rfl (by kernel_rfl) (fun _ _ _ h => h) (pureG (by rfl) (by intro w_; go_simp; first | done | with_reducible rfl)) ?_
  try simp only [Act.put, List.getElem_toArray, List.getElem_cons_succ, List.getElem_cons_zero, List.setIfInBounds_toArray, List.set_cons_zero, List.set_cons_succ]
  refine wpAnyL_one (i := 7) (by kernel_rfl) (by decide) fun V3 hv3 hS3 => ?_
  have HSV3 : 0 ≤ V3.heap.size := by { have h1 := hS3.size; have h2 := HS0.out; omega }
  replace HD1 := Lib.hid (HD1.out.below hv3)
  refine wpOp_callE (i := 7) rfl (by rfl) rfl Tryz.func61 (by kernel_rfl) (by kernel_rfl) #[.agg #[.int .u8 48, .slice v4 0 u4_, .slice v5 1 u5_], .int .i64 0] (by simp [Act.eval]) ((formedI_ok _ _ _ _ _ _ _ V3).mono ?_)
  rintro e w3 ⟨rfl, hb3⟩
  replace HD1 := Lib.hid (HD1.out.below hb3)
  refine ⟨_, rfl, Gr.trans hS3 hb3, ?_⟩
  try simp only [Act.put, List.getElem_toArray, List.getElem_cons_succ, List.getElem_cons_zero, List.setIfInBounds_toArray, List.set_cons_zero, List.set_cons_succ]
  have hSZ := Below.trans hS3 (Below.mono hb3 (Below.size hS3))
  refine wpAnyL_done (by kernel_rfl) ?_ _
  intro W16 hg
  have hBZ := Below.trans hSZ (Below.mono hg (Below.size hSZ))
  replace H00 := Lib.hid (H00.out.trans (Below.mono hBZ H00.out.size))
  replace HRS := Lib.hid (HRS.out.below' hBZ)
  clear hBZ hg hSZ hb1 hb2 hb3 hS1 hS2 hS3 hv1 hv2 hv3 HN1 HM1 HD1 HSV1 HSV2 HSV3 HS0
  go_wp2_with fail
  have HS0 := Lib.hid (Nat.zero_le W16.heap.size)
  refine wp_region_L (fun w_ => Below W16.heap.size W16 w_) [] [0, 1, 5, 6] (by kernel_rfl) (Below.refl _ _).drew ?_
  refine wpAnyL_pure (fun _ _ hS_ hb_ => gr_bel hS_ hb_) (i := 0) rfl (by kernel_rfl) (fun _ _ _ h => h) (pureG (by rfl) (by intro w_; go_simp; first | done | with_reducible rfl)) ?_
  try simp only [Act.put, List.getElem_toArray, List.getElem_cons_succ, List.getElem_cons_zero, List.setIfInBounds_toArray, List.set_cons_zero, List.set_cons_succ]
  refine wpAnyL_pure (fun _ _ hS_ hb_ => gr_bel hS_ hb_) (i := 1) rfl (by kernel_rfl) (fun _ _ _ h => h) (pureG (by rfl) (by intro w_; go_simp; first | done | with_reducible rfl)) ?_
  try simp only [Act.put, List.getElem_toArray, List.getElem_cons_succ, List.getElem_cons_zero, List.setIfInBounds_toArray, List.set_cons_zero, List.set_cons_succ]
  refine wpAnyL_take (fun _ _ hS_ hb_ => gr_bel hS_ hb_) (i := 2) rfl (by kernel_rfl) (fun _ _ _ h => h) (loadG (by rfl) _ _ rfl g2 (o2 + 12) rfl [.int .u8 48, .slice v8 0 u8_, .slice v9 2 u9_] _ (fun w_ hS_ => rangeAt_below (rangeAt_below S5.out H00.out) hS_) Tryz.underlying45 rfl info25) ?_
  try simp only [Act.put, List.getElem_toArray, List.getElem_cons_succ, List.getElem_cons_zero, List.setIfInBounds_toArray, List.set_cons_zero, List.set_cons_succ]
  refine wpAnyL_one (i := 3) (by kernel_rfl) (by decide) fun V1 hv1 hS1 => ?_
  have HSV1 : 0 ≤ V1.heap.size := by { have h1 := hS1.size; have h2 := HS0.out; omega }
  refine wpOp_callE (i := 3) rfl (by rfl) rfl Tryz.func65 (by kernel_rfl) (by kernel_rfl) #[] (by simp [Act.eval]) ((itB (base := 0) (ofTimes_d V1) (Nat.zero_le _) (fun _ h => h.elim)).mono ?_)
  rintro e w1 ⟨a1, n1, c1, b1, m1, d1, hn1, hm1, rfl, hd1, hb1⟩
  have HN1 := Lib.hid hn1; have HM1 := Lib.hid hm1; clear hn1 hm1
  have HD1 := Lib.hid hd1; clear hd1
  refine ⟨_, rfl, Gr.trans hS1 hb1, ?_⟩
  try simp only [Act.put, List.getElem_toArray, List.getElem_cons_succ, List.getElem_cons_zero, List.setIfInBounds_toArray, List.set_cons_zero, List.set_cons_succ]
  refine wpAnyL_one (i := 4) (by kernel_rfl) (by decide) fun V2 hv2 hS2 => ?_
  have HSV2 : 0 ≤ V2.heap.size := by { have h1 := hS2.size; have h2 := HS0.out; omega }
  replace HD1 := Lib.hid (HD1.out.below hv2)
  refine wpOp_callE (i := 4) rfl (by rfl) rfl Tryz.func62 (by kernel_rfl) (by kernel_rfl) #[.agg #[.int .u8 48, .slice v8 0 u8_, .slice v9 2 u9_], itV 48 a1 n1 c1 b1 m1 d1] (by simp [Act.eval]) ((one_ok V2 48 48 rfl [] timK v8 v9 a1 b1 0 2 n1 m1 u8_ u9_ c1 d1 rfl rfl HN1.out HM1.out (J5.out.below (Below.trans H00.out (Below.mono hS2 H00.out.size))) HD1.out.now _ rfl).mono ?_)
  rintro e w2 ⟨rfl, hb2⟩
  replace HD1 := Lib.hid (HD1.out.below hb2)
  refine ⟨_, rfl, Gr.trans hS2 hb2, ?_⟩
  try simp only [Act.put, List.getElem_toArray, List.getElem_cons_succ, List.getElem_cons_zero, List.setIfInBounds_toArray, List.set_cons_zero, List.set_cons_succ]
  refine wpAnyL_pure (fun _ _ hS_ hb_ => gr_bel hS_ hb_) (i := 5) rfl (by kernel_rfl) (fun _ _ _ h => h) (pureG (by rfl) (by intro w_; go_simp; first | done | with_reducible rfl)) ?_
  try simp only [Act.put, List.getElem_toArray, List.getElem_cons_succ, List.getElem_cons_zero, List.setIfInBounds_toArray, List.set_cons_zero, List.set_cons_succ]
  refine wpAnyL_pure (fun _ _ hS_ hb_ => gr_bel hS_ hb_) (i := 6) rfl (by kernel_rfl) (fun _ _ _ h => h) (pureG (by rfl) (by intro w_; go_simp; first | done | with_reducible rfl)) ?_
  try simp only [Act.put, List.getElem_toArray, List.getElem_cons_succ, List.getElem_cons_zero, List.setIfInBounds_toArray, List.set_cons_zero, List.set_cons_succ]
  refine wpAnyL_one (i := 7) (by kernel_rfl) (by decide) fun V3 hv3 hS3 => ?_
  have HSV3 : 0 ≤ V3.heap.size := by { have h1 := hS3.size; have h2 := HS0.out; omega }
  replace HD1 := Lib.hid (HD1.out.below hv3)
  refine wpOp_callE (i := 7) rfl (by rfl) rfl Tryz.func61 (by kernel_rfl) (by kernel_rfl) #[.agg #[.int .u8 48, .slice v8 0 u8_, .slice v9 2 u9_], .int .i64 0] (by simp [Act.eval]) ((formedI_ok _ _ _ _ _ _ _ V3).mono ?_)
  rintro e w3 ⟨rfl, hb3⟩
  replace HD1 := Lib.hid (HD1.out.below hb3)
  refine ⟨_, rfl, Gr.trans hS3 hb3, ?_⟩
  try simp only [Act.put, List.getElem_toArray, List.getElem_cons_succ, List.getElem_cons_zero, List.setIfInBounds_toArray, List.set_cons_zero, List.set_cons_succ]
  have hSZ := Below.trans hS3 (Below.mono hb3 (Below.size hS3))
  refine wpAnyL_done (by kernel_rfl) ?_ _
  intro W17 hg
  have hBZ := Below.trans hSZ (Below.mono hg (Below.size hSZ))
  replace H00 := Lib.hid (H00.out.trans (Below.mono hBZ H00.out.size))
  replace HRS := Lib.hid (HRS.out.below' hBZ)
  clear hBZ hg hSZ hb1 hb2 hb3 hS1 hS2 hS3 hv1 hv2 hv3 HN1 HM1 HD1 HSV1 HSV2 HSV3 HS0
  go_wp2_with fail
  have HS0 := Lib.hid (Nat.zero_le W17.heap.size)
  refine wp_region_L (fun w_ => Below W17.heap.size W17 w_) [] [0, 1, 5, 6] (by kernel_rfl) (Below.refl _ _).drew ?_
  refine wpAnyL_pure (fun _ _ hS_ hb_ => gr_bel hS_ hb_) (i := 0) rfl (by kernel_rfl) (fun _ _ _ h => h) (pureG (by rfl) (by intro w_; go_simp; first | done | with_reducible rfl)) ?_
  try simp only [Act.put, List.getElem_toArray, List.getElem_cons_succ, List.getElem_cons_zero, List.setIfInBounds_toArray, List.set_cons_zero, List.set_cons_succ]
  refine wpAnyL_pure (fun _ _ hS_ hb_ => gr_bel hS_ hb_) (i := 1) rfl (by kernel_rfl) (fun _ _ _ h => h) (pureG (by rfl) (by intro w_; go_simp; first | done | with_reducible rfl)) ?_
  try simp only [Act.put, List.getElem_toArray, List.getElem_cons_succ, List.getElem_cons_zero, List.setIfInBounds_toArray, List.set_cons_zero, List.set_cons_succ]
  refine wpAnyL_take (fun _ _ hS_ hb_ => gr_bel hS_ hb_) (i := 2) rfl (by kernel_rfl) (fun _ _ _ h => h) (loadG (by rfl) _ _ rfl g3 o3 rfl [.int .u8 48, .slice z1 0 q1, .slice z2 1 q2] _ (fun w_ hS_ => rangeAt_below (rangeAt_below T1.out H00.out) hS_) Tryz.underlying45 rfl info25) ?_
  try simp only [Act.put, List.getElem_toArray, List.getElem_cons_succ, List.getElem_cons_zero, List.setIfInBounds_toArray, List.set_cons_zero, List.set_cons_succ]
  refine wpAnyL_one (i := 3) (by kernel_rfl) (by decide) fun V1 hv1 hS1 => ?_
  have HSV1 : 0 ≤ V1.heap.size := by { have h1 := hS1.size; have h2 := HS0.out; omega }
  refine wpOp_callE (i := 3) rfl (by rfl) rfl Tryz.func63 (by kernel_rfl) (by kernel_rfl) #[] (by simp [Act.eval]) ((itB (base := 0) (ofAlgorithm_d V1) (Nat.zero_le _) (fun _ h => h.elim)).mono ?_)
  rintro e w1 ⟨a1, n1, c1, b1, m1, d1, hn1, hm1, rfl, hd1, hb1⟩
  have HN1 := Lib.hid hn1; have HM1 := Lib.hid hm1; clear hn1 hm1
  have HD1 := Lib.hid hd1; clear hd1
  refine ⟨_, rfl, Gr.trans hS1 hb1, ?_⟩
  try simp only [Act.put, List.getElem_toArray, List.getElem_cons_succ, List.getElem_cons_zero, List.setIfInBounds_toArray, List.set_cons_zero, List.set_cons_succ]
  refine wpAnyL_one (i := 4) (by kernel_rfl) (by decide) fun V2 hv2 hS2 => ?_
  have HSV2 : 0 ≤ V2.heap.size := by { have h1 := hS2.size; have h2 := HS0.out; omega }
  replace HD1 := Lib.hid (HD1.out.below hv2)
  refine wpOp_callE (i := 4) rfl (by rfl) rfl Tryz.func62 (by kernel_rfl) (by kernel_rfl) #[.agg #[.int .u8 48, .slice z1 0 q1, .slice z2 1 q2], itV 48 a1 n1 c1 b1 m1 d1] (by simp [Act.eval]) ((one_ok V2 48 48 rfl [] algK z1 z2 a1 b1 0 1 n1 m1 q1 q2 c1 d1 rfl rfl HN1.out HM1.out (L1.out.below (Below.trans H00.out (Below.mono hS2 H00.out.size))) HD1.out.now _ rfl).mono ?_)
  rintro e w2 ⟨rfl, hb2⟩
  replace HD1 := Lib.hid (HD1.out.below hb2)
  refine ⟨_, rfl, Gr.trans hS2 hb2, ?_⟩
  try simp only [Act.put, List.getElem_toArray, List.getElem_cons_succ, List.getElem_cons_zero, List.setIfInBounds_toArray, List.set_cons_zero, List.set_cons_succ]
  refine wpAnyL_pure (fun _ _ hS_ hb_ => gr_bel hS_ hb_) (i := 5) rfl (by kernel_rfl) (fun _ _ _ h => h) (pureG (by rfl) (by intro w_; go_simp; first | done | with_reducible rfl)) ?_
  try simp only [Act.put, List.getElem_toArray, List.getElem_cons_succ, List.getElem_cons_zero, List.setIfInBounds_toArray, List.set_cons_zero, List.set_cons_succ]
  refine wpAnyL_pure (fun _ _ hS_ hb_ => gr_bel hS_ hb_) (i := 6) rfl (by kernel_rfl) (fun _ _ _ h => h) (pureG (by rfl) (by intro w_; go_simp; first | done | with_reducible rfl)) ?_
  try simp only [Act.put, List.getElem_toArray, List.getElem_cons_succ, List.getElem_cons_zero, List.setIfInBounds_toArray, List.set_cons_zero, List.set_cons_succ]
  refine wpAnyL_one (i := 7) (by kernel_rfl) (by decide) fun V3 hv3 hS3 => ?_
  have HSV3 : 0 ≤ V3.heap.size := by { have h1 := hS3.size; have h2 := HS0.out; omega }
  replace HD1 := Lib.hid (HD1.out.below hv3)
  refine wpOp_callE (i := 7) rfl (by rfl) rfl Tryz.func61 (by kernel_rfl) (by kernel_rfl) #[.agg #[.int .u8 48, .slice z1 0 q1, .slice z2 1 q2], .int .i64 0] (by simp [Act.eval]) ((formedI_ok _ _ _ _ _ _ _ V3).mono ?_)
  rintro e w3 ⟨rfl, hb3⟩
  replace HD1 := Lib.hid (HD1.out.below hb3)
  refine ⟨_, rfl, Gr.trans hS3 hb3, ?_⟩
  try simp only [Act.put, List.getElem_toArray, List.getElem_cons_succ, List.getElem_cons_zero, List.setIfInBounds_toArray, List.set_cons_zero, List.set_cons_succ]
  have hSZ := Below.trans hS3 (Below.mono hb3 (Below.size hS3))
  refine wpAnyL_done (by kernel_rfl) ?_ _
  intro W18 hg
  have hBZ := Below.trans hSZ (Below.mono hg (Below.size hSZ))
  replace H00 := Lib.hid (H00.out.trans (Below.mono hBZ H00.out.size))
  replace HRS := Lib.hid (HRS.out.below' hBZ)
  clear hBZ hg hSZ hb1 hb2 hb3 hS1 hS2 hS3 hv1 hv2 hv3 HN1 HM1 HD1 HSV1 HSV2 HSV3 HS0
  go_wp2_with fail
  have HS0 := Lib.hid (Nat.zero_le W18.heap.size)
  refine wp_region_L (fun w_ => Below W18.heap.size W18 w_) [33] [0, 1, 4, 5, 7, 8, 11, 12, 15, 16, 19, 20, 22, 23, 25, 26, 29, 30, 32, 33] (by kernel_rfl) (Below.refl _ _).drew ?_
  refine wpAnyL_pure (fun _ _ hS_ hb_ => gr_bel hS_ hb_) (i := 0) rfl (by kernel_rfl) (fun _ _ _ h => h) (pureG (by rfl) (by intro w_; go_simp; first | done | with_reducible rfl)) ?_
  try simp only [Act.put, List.getElem_toArray, List.getElem_cons_succ, List.getElem_cons_zero, List.setIfInBounds_toArray, List.set_cons_zero, List.set_cons_succ]
  refine wpAnyL_pure (fun _ _ hS_ hb_ => gr_bel hS_ hb_) (i := 1) rfl (by kernel_rfl) (fun _ _ _ h => h) (pureG (by rfl) (by intro w_; go_simp; first | done | with_reducible rfl)) ?_
  try simp only [Act.put, List.getElem_toArray, List.getElem_cons_succ, List.getElem_cons_zero, List.setIfInBounds_toArray, List.set_cons_zero, List.set_cons_succ]
  refine wpAnyL_take (fun _ _ hS_ hb_ => gr_bel hS_ hb_) (i := 2) rfl (by kernel_rfl) (fun _ _ _ h => h) (loadG (by rfl) _ _ rfl g2 (o2 + 3) rfl [.int .u8 2, .slice a7 n7 c7, .slice v3 0 u3] _ (fun w_ hS_ => rangeAt_below (rangeAt_below S2.out H00.out) hS_) Tryz.underlying45 rfl info25) ?_
  try simp only [Act.put, List.getElem_toArray, List.getElem_cons_succ, List.getElem_cons_zero, List.setIfInBounds_toArray, List.set_cons_zero, List.set_cons_succ]
  refine wpAnyL_pure (fun _ _ hS_ hb_ => gr_bel hS_ hb_) (i := 7) rfl (by kernel_rfl) (fun _ _ _ h => h) (pureG (by rfl) (by intro w_; go_simp; first | done | with_reducible rfl)) ?_
  try simp only [Act.put, List.getElem_toArray, List.getElem_cons_succ, List.getElem_cons_zero, List.setIfInBounds_toArray, List.set_cons_zero, List.set_cons_succ]
  refine wpAnyL_pure (fun _ _ hS_ hb_ => gr_bel hS_ hb_) (i := 8) rfl (by kernel_rfl) (fun _ _ _ h => h) (pureG (by rfl) (by intro w_; go_simp; first | done | with_reducible rfl)) ?_
  try simp only [Act.put, List.getElem_toArray, List.getElem_cons_succ, List.getElem_cons_zero, List.setIfInBounds_toArray, List.set_cons_zero, List.set_cons_succ]
  refine wpAnyL_take (fun _ _ hS_ hb_ => gr_bel hS_ hb_) (i := 9) rfl (by kernel_rfl) (fun _ _ _ h => h) (loadG (by rfl) _ _ rfl g2 (o2 + 9) rfl [.int .u8 48, .slice v6 0 u6_, .slice v7 1 u7_] _ (fun w_ hS_ => rangeAt_below (rangeAt_below S4.out H00.out) hS_) Tryz.underlying45 rfl info25) ?_
  try simp only [Act.put, List.getElem_toArray, List.getElem_cons_succ, List.getElem_cons_zero, List.setIfInBounds_toArray, List.set_cons_zero, List.set_cons_succ]
  refine wpAnyL_pure (fun _ _ hS_ hb_ => gr_bel hS_ hb_) (i := 11) rfl (by kernel_rfl) (fun _ _ _ h => h) (pureG (by rfl) (by intro w_; go_simp; first | done | with_reducible rfl)) ?_
  try simp only [Act.put, List.getElem_toArray, List.getElem_cons_succ, List.getElem_cons_zero, List.setIfInBounds_toArray, List.set_cons_zero, List.set_cons_succ]
  refine wpAnyL_pure (fun _ _ hS_ hb_ => gr_bel hS_ hb_) (i := 12) rfl (by kernel_rfl) (fun _ _ _ h => h) (pureG (by rfl) (by intro w_; go_simp; first | done | with_reducible rfl)) ?_
  try simp only [Act.put, List.getElem_toArray, List.getElem_cons_succ, List.getElem_cons_zero, List.setIfInBounds_toArray, List.set_cons_zero, List.set_cons_succ]
  refine wpAnyL_take (fun _ _ hS_ hb_ => gr_bel hS_ hb_) (i := 13) rfl (by kernel_rfl) (fun _ _ _ h => h) (loadG (by rfl) _ _ rfl g2 (o2 + 15) rfl [.int .u8 48, .slice v10 0 u10_, .slice v11 1 u11_] _ (fun w_ hS_ => rangeAt_below (rangeAt_below S6.out H00.out) hS_) Tryz.underlying45 rfl info25) ?_
  try simp only [Act.put, List.getElem_toArray, List.getElem_cons_succ, List.getElem_cons_zero, List.setIfInBounds_toArray, List.set_cons_zero, List.set_cons_succ]
  refine wpAnyL_pure (fun _ _ hS_ hb_ => gr_bel hS_ hb_) (i := 15) rfl (by kernel_rfl) (fun _ _ _ h => h) (pureG (by rfl) (by intro w_; go_simp; first | done | with_reducible rfl)) ?_
  try simp only [Act.put, List.getElem_toArray, List.getElem_cons_succ, List.getElem_cons_zero, List.setIfInBounds_toArray, List.set_cons_zero, List.set_cons_succ]
  refine wpAnyL_pure (fun _ _ hS_ hb_ => gr_bel hS_ hb_) (i := 16) rfl (by kernel_rfl) (fun _ _ _ h => h) (pureG (by rfl) (by intro w_; go_simp; first | done | with_reducible rfl)) ?_
  try simp only [Act.put, List.getElem_toArray, List.getElem_cons_succ, List.getElem_cons_zero, List.setIfInBounds_toArray, List.set_cons_zero, List.set_cons_succ]
  refine wpAnyL_take (fun _ _ hS_ hb_ => gr_bel hS_ hb_) (i := 17) rfl (by kernel_rfl) (fun _ _ _ h => h) (loadG (by rfl) _ _ rfl g3 (o3 + 3) rfl [.int .u8 3, .slice a8 n8 c8, .slice z3 0 q3] _ (fun w_ hS_ => rangeAt_below (rangeAt_below T2.out H00.out) hS_) Tryz.underlying45 rfl info25) ?_
  try simp only [Act.put, List.getElem_toArray, List.getElem_cons_succ, List.getElem_cons_zero, List.setIfInBounds_toArray, List.set_cons_zero, List.set_cons_succ]
  refine wpAnyL_pure (fun _ _ hS_ hb_ => gr_bel hS_ hb_) (i := 25) rfl (by kernel_rfl) (fun _ _ _ h => h) (pureG (by rfl) (by intro w_; go_simp; first | done | with_reducible rfl)) ?_
  try simp only [Act.put, List.getElem_toArray, List.getElem_cons_succ, List.getElem_cons_zero, List.setIfInBounds_toArray, List.set_cons_zero, List.set_cons_succ]
  refine wpAnyL_pure (fun _ _ hS_ hb_ => gr_bel hS_ hb_) (i := 26) rfl (by kernel_rfl) (fun _ _ _ h => h) (pureG (by rfl) (by intro w_; go_simp; first | done | with_reducible rfl)) ?_
  try simp only [Act.put, List.getElem_toArray, List.getElem_cons_succ, List.getElem_cons_zero, List.setIfInBounds_toArray, List.set_cons_zero, List.set_cons_succ]
  refine wpAnyL_take (fun _ _ hS_ hb_ => gr_bel hS_ hb_) (i := 27) rfl (by kernel_rfl) (fun _ _ _ h => h) (loadG (by rfl) _ _ rfl g1 (o1 + 6) rfl [.int .u8 3, .slice a6 n6 c6, .slice x6 0 y6] _ (fun w_ hS_ => rangeAt_below (rangeAt_below R3.out H00.out) hS_) Tryz.underlying45 rfl info25) ?_
  try simp only [Act.put, List.getElem_toArray, List.getElem_cons_succ, List.getElem_cons_zero, List.setIfInBounds_toArray, List.set_cons_zero, List.set_cons_succ]
  refine wpAnyL_pure (fun _ _ hS_ hb_ => gr_bel hS_ hb_) (i := 22) rfl (by kernel_rfl) (fun _ _ _ h => h) (pureG (by rfl) (by intro w_; go_simp; first | done | with_reducible rfl)) ?_
  try simp only [Act.put, List.getElem_toArray, List.getElem_cons_succ, List.getElem_cons_zero, List.setIfInBounds_toArray, List.set_cons_zero, List.set_cons_succ]
  have hy7 : (7 : Int) ≤ (y2 : Int) := by have := HY2.out; omega
  refine wpAnyL_pure (fun _ _ hS_ hb_ => gr_bel hS_ hb_) (i := 23) rfl (by kernel_rfl) (fun _ _ _ h => h) (pureG (by rfl) (by intro w_; go_simp; first | done | with_reducible rfl)) ?_
  try simp only [Act.put, List.getElem_toArray, List.getElem_cons_succ, List.getElem_cons_zero, List.setIfInBounds_toArray, List.set_cons_zero, List.set_cons_succ]
  refine wpAnyL_one (i := 3) (by kernel_rfl) (by decide) fun V1 hv1 hS1 => ?_
  have HSV1 : 0 ≤ V1.heap.size := by { have h1 := hS1.size; have h2 := HS0.out; omega }
  refine wpOp_callE (i := 3) rfl (by rfl) rfl Tryz.func67 (by kernel_rfl) (by kernel_rfl) #[.agg #[.int .u8 2, .slice a7 n7 c7, .slice v3 0 u3]] (by simp [Act.eval]) ((uint_k HSN.out (J2.out.below (Below.trans H00.out (Below.mono hS1 H00.out.size))) HN7.out).mono ?_)
  rintro e w1 ⟨rfl, hb1⟩
  refine ⟨_, rfl, Gr.trans hS1 hb1, ?_⟩
  try simp only [Act.put, List.getElem_toArray, List.getElem_cons_succ, List.getElem_cons_zero, List.setIfInBounds_toArray, List.set_cons_zero, List.set_cons_succ]
  refine wpAnyL_pure (fun _ _ hS_ hb_ => gr_bel hS_ hb_) (i := 4) rfl (by kernel_rfl) (fun _ _ _ h => h) (pureG (by rfl) (by intro w_; go_simp; first | done | with_reducible rfl)) ?_
  try simp only [Act.put, List.getElem_toArray, List.getElem_cons_succ, List.getElem_cons_zero, List.setIfInBounds_toArray, List.set_cons_zero, List.set_cons_succ]
  refine wpAnyL_pure (fun _ _ hS_ hb_ => gr_bel hS_ hb_) (i := 5) rfl (by kernel_rfl) (fun _ _ _ h => h) (pureG (by rfl) (by intro w_; go_simp; first | done | with_reducible rfl)) ?_
  try simp only [Act.put, List.getElem_toArray, List.getElem_cons_succ, List.getElem_cons_zero, List.setIfInBounds_toArray, List.set_cons_zero, List.set_cons_succ]
  refine wpAnyL_one (i := 6) (by kernel_rfl) (by decide) fun V2 hv2 hS2 => ?_
  have HSV2 : 0 ≤ V2.heap.size := by { have h1 := hS2.size; have h2 := HS0.out; omega }
  refine wpOp_callE (i := 6) rfl (by rfl) rfl Tryz.func66 (by kernel_rfl) (by kernel_rfl) #[.int .u64 (sn : Nat), .int .i64 0] (by simp [Act.eval]) (((formedU_ok (sn : Nat) V2).mono (fun e w' h => (⟨h.1, by rw [← h.2]; exact Below.refl _ _⟩ : e = .returned (.int .u64 (sn : Nat)) ∧ Below V2.heap.size V2 w'))).mono ?_)
  rintro e w2 ⟨rfl, hb2⟩
  refine ⟨_, rfl, Gr.trans hS2 hb2, ?_⟩
  try simp only [Act.put, List.getElem_toArray, List.getElem_cons_succ, List.getElem_cons_zero, List.setIfInBounds_toArray, List.set_cons_zero, List.set_cons_succ]
  refine wpAnyL_one (i := 10) (by kernel_rfl) (by decide) fun V3 hv3 hS3 => ?_
  have HSV3 : 0 ≤ V3.heap.size := by { have h1 := hS3.size; have h2 := HS0.out; omega }
  refine wpOp_callE (i := 10) rfl (by rfl) rfl Tryz.func68 (by kernel_rfl) (by kernel_rfl) #[.agg #[.int .u8 48, .slice v6 0 u6_, .slice v7 1 u7_]] (by simp [Act.eval]) ((readName_ok V3 ib v6 v7 0 u6_ u7_ (J4.out.below (Below.trans H00.out (Below.mono hS3 H00.out.size)))).mono ?_)
  rintro e w3 ⟨rfl, hb3⟩
  refine ⟨_, rfl, Gr.trans hS3 hb3, ?_⟩
  try simp only [Act.put, List.getElem_toArray, List.getElem_cons_succ, List.getElem_cons_zero, List.setIfInBounds_toArray, List.set_cons_zero, List.set_cons_succ]
  refine wpAnyL_one (i := 14) (by kernel_rfl) (by decide) fun V4 hv4 hS4 => ?_
  have HSV4 : 0 ≤ V4.heap.size := by { have h1 := hS4.size; have h2 := HS0.out; omega }
  refine wpOp_callE (i := 14) rfl (by rfl) rfl Tryz.func68 (by kernel_rfl) (by kernel_rfl) #[.agg #[.int .u8 48, .slice v10 0 u10_, .slice v11 1 u11_]] (by simp [Act.eval]) ((readName_ok V4 sb v10 v11 0 u10_ u11_ (J6.out.below (Below.trans H00.out (Below.mono hS4 H00.out.size)))).mono ?_)
  rintro e w4 ⟨rfl, hb4⟩
  refine ⟨_, rfl, Gr.trans hS4 hb4, ?_⟩
  try simp only [Act.put, List.getElem_toArray, List.getElem_cons_succ, List.getElem_cons_zero, List.setIfInBounds_toArray, List.set_cons_zero, List.set_cons_succ]
  refine wpAnyL_one (i := 18) (by kernel_rfl) (by decide) fun V5 hv5 hS5 => ?_
  have HSV5 : 0 ≤ V5.heap.size := by { have h1 := hS5.size; have h2 := HS0.out; omega }
  refine wpOp_callE (i := 18) rfl (by rfl) rfl Tryz.func70 (by kernel_rfl) (by kernel_rfl) #[.agg #[.int .u8 3, .slice a8 n8 c8, .slice z3 0 q3]] (by simp [Act.eval]) ((bits_k (L2.out.below (Below.trans H00.out (Below.mono hS5 H00.out.size))) HN8.out HKN.out).mono ?_)
  rintro e w5 ⟨ka, kc, rfl, hkb, hb5⟩
  have HKB := Lib.hid hkb; clear hkb
  refine ⟨_, rfl, Gr.trans hS5 hb5, ?_⟩
  try simp only [Act.put, List.getElem_toArray, List.getElem_cons_succ, List.getElem_cons_zero, List.setIfInBounds_toArray, List.set_cons_zero, List.set_cons_succ]
  refine wpAnyL_pure (fun _ _ hS_ hb_ => gr_bel hS_ hb_) (i := 19) rfl (by kernel_rfl) (fun _ _ _ h => h) (pureG (by rfl) (by intro w_; go_simp; first | done | with_reducible rfl)) ?_
  try simp only [Act.put, List.getElem_toArray, List.getElem_cons_succ, List.getElem_cons_zero, List.setIfInBounds_toArray, List.set_cons_zero, List.set_cons_succ]
  refine wpAnyL_pure (fun _ _ hS_ hb_ => gr_bel hS_ hb_) (i := 20) rfl (by kernel_rfl) (fun _ _ _ h => h) (pureG (by rfl) (by intro w_; go_simp; first | done | with_reducible rfl)) ?_
  try simp only [Act.put, List.getElem_toArray, List.getElem_cons_succ, List.getElem_cons_zero, List.setIfInBounds_toArray, List.set_cons_zero, List.set_cons_succ]
  refine wpAnyL_one (i := 21) (by kernel_rfl) (by decide) fun V6 hv6 hS6 => ?_
  have HSV6 : 0 ≤ V6.heap.size := by { have h1 := hS6.size; have h2 := HS0.out; omega }
  replace HKB := Lib.hid (HKB.out.below hv6)
  refine wpOp_callE (i := 21) rfl (by rfl) rfl Tryz.func69 (by kernel_rfl) (by kernel_rfl) #[.slice ka kn kc, .int .i64 0] (by simp [Act.eval]) (((formedB_ok (ka, kn, kc) V6).mono (fun e w' h => (⟨h.1, by rw [← h.2]; exact Below.refl _ _⟩ : e = .returned (.slice ka kn kc) ∧ Below V6.heap.size V6 w'))).mono ?_)
  rintro e w6 ⟨rfl, hb6⟩
  replace HKB := Lib.hid (HKB.out.below hb6)
  refine ⟨_, rfl, Gr.trans hS6 hb6, ?_⟩
  try simp only [Act.put, List.getElem_toArray, List.getElem_cons_succ, List.getElem_cons_zero, List.setIfInBounds_toArray, List.set_cons_zero, List.set_cons_succ]
  refine wpAnyL_one (i := 24) (by kernel_rfl) (by decide) fun V7 hv7 hS7 => ?_
  have HSV7 : 0 ≤ V7.heap.size := by { have h1 := hS7.size; have h2 := HS0.out; omega }
  replace HKB := Lib.hid (HKB.out.below hv7)
  refine wpOp_callE (i := 24) rfl (by rfl) rfl Tryz.func71 (by kernel_rfl) (by kernel_rfl) #[.slice (if y2 = 7 then some ⟨g2, o2, none⟩ else some ⟨g2, o2 + 21, none⟩) 0 (y2 - 7)] (by simp [Act.eval]) ((readExts_0 _ _ V7).mono ?_)
  rintro e w7 ⟨rfl, hb7⟩
  replace HKB := Lib.hid (HKB.out.below hb7)
  refine ⟨_, rfl, Gr.trans hS7 hb7, ?_⟩
  try simp only [Act.put, List.getElem_toArray, List.getElem_cons_succ, List.getElem_cons_zero, List.setIfInBounds_toArray, List.set_cons_zero, List.set_cons_succ]
  refine wpAnyL_one (i := 28) (by kernel_rfl) (by decide) fun V8 hv8 hS8 => ?_
  have HSV8 : 0 ≤ V8.heap.size := by { have h1 := hS8.size; have h2 := HS0.out; omega }
  replace HKB := Lib.hid (HKB.out.below hv8)
  refine wpOp_callE (i := 28) rfl (by rfl) rfl Tryz.func70 (by kernel_rfl) (by kernel_rfl) #[.agg #[.int .u8 3, .slice a6 n6 c6, .slice x6 0 y6]] (by simp [Act.eval]) ((bits_k (I3.out.below (Below.trans H00.out (Below.mono hS8 H00.out.size))) HN6.out HSL.out).mono ?_)
  rintro e w8 ⟨sa, sc, rfl, hsg, hb8⟩
  replace HKB := Lib.hid (HKB.out.below hb8)
  have HSG := Lib.hid hsg; clear hsg
  refine ⟨_, rfl, Gr.trans hS8 hb8, ?_⟩
  try simp only [Act.put, List.getElem_toArray, List.getElem_cons_succ, List.getElem_cons_zero, List.setIfInBounds_toArray, List.set_cons_zero, List.set_cons_succ]
  refine wpAnyL_pure (fun _ _ hS_ hb_ => gr_bel hS_ hb_) (i := 29) rfl (by kernel_rfl) (fun _ _ _ h => h) (pureG (by rfl) (by intro w_; go_simp; first | done | with_reducible rfl)) ?_
  try simp only [Act.put, List.getElem_toArray, List.getElem_cons_succ, List.getElem_cons_zero, List.setIfInBounds_toArray, List.set_cons_zero, List.set_cons_succ]
  refine wpAnyL_pure (fun _ _ hS_ hb_ => gr_bel hS_ hb_) (i := 30) rfl (by kernel_rfl) (fun _ _ _ h => h) (pureG (by rfl) (by intro w_; go_simp; first | done | with_reducible rfl)) ?_
  try simp only [Act.put, List.getElem_toArray, List.getElem_cons_succ, List.getElem_cons_zero, List.setIfInBounds_toArray, List.set_cons_zero, List.set_cons_succ]
  refine wpAnyL_one (i := 31) (by kernel_rfl) (by decide) fun V9 hv9 hS9 => ?_
  have HSV9 : 0 ≤ V9.heap.size := by { have h1 := hS9.size; have h2 := HS0.out; omega }
  replace HKB := Lib.hid (HKB.out.below hv9)
  replace HSG := Lib.hid (HSG.out.below hv9)
  refine wpOp_callE (i := 31) rfl (by rfl) rfl Tryz.func69 (by kernel_rfl) (by kernel_rfl) #[.slice sa sl sc, .int .i64 0] (by simp [Act.eval]) (((formedB_ok (sa, sl, sc) V9).mono (fun e w' h => (⟨h.1, by rw [← h.2]; exact Below.refl _ _⟩ : e = .returned (.slice sa sl sc) ∧ Below V9.heap.size V9 w'))).mono ?_)
  rintro e w9 ⟨rfl, hb9⟩
  replace HKB := Lib.hid (HKB.out.below hb9)
  replace HSG := Lib.hid (HSG.out.below hb9)
  refine ⟨_, rfl, Gr.trans hS9 hb9, ?_⟩
  try simp only [Act.put, List.getElem_toArray, List.getElem_cons_succ, List.getElem_cons_zero, List.setIfInBounds_toArray, List.set_cons_zero, List.set_cons_succ]
  refine wpAnyL_pure (fun _ _ hS_ hb_ => gr_bel hS_ hb_) (i := 32) rfl (by kernel_rfl) (fun _ _ _ h => h) (buildG (by rfl) _ _ rfl #[.int .u64 (sn : Nat), .string (strV ib), .string (strV sb), .slice ka kn kc, .slice none 0 0, .slice sa sl sc] (L := [(0, .int .u64 (sn : Nat)), (1, .string (strV ib)), (2, .string (strV sb)), (3, .slice ka kn kc), (4, .slice none 0 0), (5, .slice sa sl sc)]) (by kernel_rfl) (by simp [Act.eval])) ?_
  try simp only [Act.put, List.getElem_toArray, List.getElem_cons_succ, List.getElem_cons_zero, List.setIfInBounds_toArray, List.set_cons_zero, List.set_cons_succ]
  have hSZ := hS9
  refine wpAnyL_oneF (i := 33) (by kernel_rfl) (by decide) (by kernel_rfl) (by decide) fun VE hvE => ?_
  replace HKB := Lib.hid (HKB.out.below hvE)
  replace HSG := Lib.hid (HSG.out.below hvE)
  have hBE := Below.trans hS9 (Below.mono (hb9.trans (Below.mono hvE hb9.size)) (Below.size hS9))
  refine (StoresG.mk (g := w.heap.size + 1) (t := 26) (cs := [.int .u64 (sn : Nat), .string (strV ib), .string (strV sb), .slice ka kn kc, .slice none 0 0, .slice sa sl sc]) (by rfl) _ _ _ rfl rfl rfl info55 (by intro v hv; simp at hv; rcases hv with rfl | rfl | rfl | rfl | rfl | rfl <;> rfl)).wpOp (i := 33) rfl (HRS.out.below' hBE) rfl ?_
  try simp only [Act.put, List.getElem_toArray, List.getElem_cons_succ, List.getElem_cons_zero, List.setIfInBounds_toArray, List.set_cons_zero, List.set_cons_succ]
  clear hBE
  refine wpAnyL_done (by kernel_rfl) ?_ _
  intro W9 hg9
  have hB9 := Below.trans hSZ (Below.mono (hb9.trans (Below.mono hvE hb9.size)) (Below.size hSZ))
  have hb := H00.out.trans (Below.mono hB9 H00.out.size)
  have hrow := below_setRow' hb (Nat.le_succ w.heap.size) #[.int .u64 (sn : Nat), .string (strV ib), .string (strV sb), .slice ka kn kc, .slice none 0 0, .slice sa sl sc]
  have HB10 := Lib.hid (hrow.trans (Below.mono hg9 hrow.size))
  have HRSE := HRS.out.below' hB9
  have HRS9 := Lib.hid ((HRSE.setRow [.int .u64 (sn : Nat), .string (strV ib), .string (strV sb), .slice ka kn kc, .slice none 0 0, .slice sa sl sc]).below' hg9)
  have hk9 := (HKB.out.rowK HRSE (by intro v hv z; simp at hv; rcases hv with rfl | rfl | rfl <;> simp) #[.int .u64 (sn : Nat), .string (strV ib), .string (strV sb), .slice ka kn kc, .slice none 0 0, .slice sa sl sc]).below hg9
  have hs9 := (HSG.out.rowK HRSE (by intro v hv z; simp at hv; rcases hv with rfl | rfl | rfl <;> simp) #[.int .u64 (sn : Nat), .string (strV ib), .string (strV sb), .slice ka kn kc, .slice none 0 0, .slice sa sl sc]).below hg9
  have HE9 := Lib.hid hk9
  have HF9 := Lib.hid hs9
  clear hk9 hs9 HRSE hrow hb hB9 hg9
  go_wp2_with fail
  all_goals
    refine bodyPost_ret (results_one Tryz.results34 _ _ (w.heap.size + 1) 26 _ (0, 0) _ rfl HRS9.out Tryz.underlying26 rfl info55) rfl ?_
    exact ⟨ka, kc, sa, sc, rfl, HE9.out, HF9.out, HB10.out⟩
end Go.Proofs.YtbabpmncdphnjaaGreat
namespace Go.Proofs.YtbabpmncdphnjaaGreat
open Go.RowKit
set_option linter.unusedVariables false
set_option maxRecDepth 100000
set_option linter.unusedSimpArgs false
abbrev XV := Int × Bool × List Nat
def XRow (w : World) : List XV → Nat → Nat → Prop
  | [], _, _ => True
  | x :: r, g, o => (-9223372036854775808 ≤ x.1 ∧ x.1 ≤ 9223372036854775807) ∧ (∃ a c, w.rangeAt g o [.int .i64 x.1, .bool x.2.1, .slice a x.2.2.length c] ∧ BIn w a x.2.2.length c x.2.2) ∧ XRow w r g (o + 3)
def XIn (w : World) (a : Option Addr) (n c : Nat) (xs : List XV) : Prop := xs.length = n ∧ n ≤ c ∧ n ≤ 140737488355328 ∧ (a = none → c = 0) ∧ (n = 0 ∨ ∃ g o, a = some ⟨g, o, none⟩ ∧ XRow w xs g o)
theorem XRow.below {w w' : World} (hb : Below w.heap.size w w') : ∀ {xs : List XV} {g o : Nat}, XRow w xs g o → XRow w' xs g o
  | [], _, _, _ => trivial
  | x :: r, g, o, ⟨h0, ⟨a, c, h1, h2⟩, h3⟩ => ⟨h0, ⟨a, c, rangeAt_below h1 hb, h2.below hb⟩, XRow.below hb h3⟩
theorem XIn.below {w w' : World} {a : Option Addr} {n c : Nat} {xs : List XV} (h : XIn w a n c xs) (hb : Below w.heap.size w w') : XIn w' a n c xs := by
  obtain ⟨h1, h2, h3, h4, h5⟩ := h
  refine ⟨h1, h2, h3, h4, ?_⟩
  rcases h5 with h5 | ⟨g, o, rfl, h5⟩
  · exact .inl h5
  · exact .inr ⟨g, o, rfl, h5.below hb⟩
theorem XRow.at {w : World} : ∀ {xs : List XV} {g o i : Nat} {x : XV}, XRow w xs g o → xs[i]? = some x → (-9223372036854775808 ≤ x.1 ∧ x.1 ≤ 9223372036854775807) ∧ ∃ a c, w.rangeAt g (o + i * 3) [.int .i64 x.1, .bool x.2.1, .slice a x.2.2.length c] ∧ BIn w a x.2.2.length c x.2.2
  | y :: r, g, o, 0, x, ⟨h0, ⟨a, c, h1, h2⟩, h3⟩, he => by
    obtain rfl : y = x := by simpa using he
    exact ⟨h0, a, c, by simpa using h1, h2⟩
  | y :: r, g, o, i + 1, x, ⟨h0, _, h3⟩, he => by
    have := XRow.at h3 (i := i) (x := x) (by simpa using he)
    rwa [show o + 3 + i * 3 = o + (i + 1) * 3 by omega] at this
def FirstX (xs : List XV) (z : Int) (i : Nat) (x : XV) : Prop := xs[i]? = some x ∧ x.1 = z ∧ ∀ (j : Nat) (y : XV), j < i → xs[j]? = some y → y.1 ≠ z
def NoX (xs : List XV) (z : Int) : Prop := ∀ (j : Nat) (y : XV), xs[j]? = some y → y.1 ≠ z
theorem first_or (xs : List XV) (z : Int) : (∃ i x, FirstX xs z i x) ∨ NoX xs z := by
  induction xs with
  | nil => right; intro j y h; simp at h
  | cons y r ih =>
    by_cases hy : y.1 = z
    · exact .inl ⟨0, y, rfl, hy, fun j _ h => by omega⟩
    · rcases ih with ⟨i, x, h1, h2, h3⟩ | h
      · refine .inl ⟨i + 1, x, by simpa using h1, h2, fun j q hj hq => ?_⟩
        cases j with
        | zero => obtain rfl : y = q := by simpa using hq
                  exact hy
        | succ j => exact h3 j q (by omega) (by simpa using hq)
      · right
        intro j q hq
        cases j with
        | zero => obtain rfl : y = q := by simpa using hq
                  exact hy
        | succ j => exact h j q (by simpa using hq)
theorem info65 : (Tryz.prog.info? 67).map (·.size) = some 3 := by kernel_rfl
theorem all_ext (z : Int) (b : Bool) (a : Option Addr) (n c : Nat) : (#[Value.int .i64 z, .bool b, .slice a n c] : Array Value).all (·.oneCell') = true := by simp [Value.oneCell']
section
variable {w : World} {ops : Array Oper} {rest : List Oper} {o : Oper} {a : Act} {Q : Exit → Act → World → Prop}
theorem ldX (hgd : o.guard = none) (x : Operand) (ho : o.op = .load 67 x) (b off : Nat) (hx : a.eval x = .pointer (some ⟨b, off, none⟩)) (v0 v1 v2 : Value) (hr : w.rangeAt b off [v0, v1, v2])
    (h : wpList Tryz.prog ops Q rest (a.put o.dst (.agg #[v0, v1, v2])) w) : wpList Tryz.prog ops Q (o :: rest) a w :=
  wpList_load_mid hgd 67 x ho b off hx [v0, v1, v2] _ hr Tryz.underlying67 rfl info65 h
end
theorem isX_any (x z : Int) (b : Bool) (a : Option Addr) (n c B : Nat) (w : World) (r : Bool) (hr : decide (x = z) = r) (hc : w.cell? ⟨B, 0, none⟩ = some (.int .i64 z)) : Calls Tryz.prog 105 #[.agg #[.int .i64 x, .bool b, .slice a n c], .pointer (some ⟨B, 0, none⟩)] w fun e w' => e = .returned (.bool r) ∧ Below w.heap.size w w' := by
  have hb := (Below.refl _ w).alloc (Nat.le_refl _) (.cells #[.int .i64 x, .bool b, .slice a n c] 67)
  have HB := Lib.hid hb
  have hcz := (hb.cell (World.block_lt_of_cell? w _ hc)).trans hc
  have HX := Lib.hid (Blk.new w 67 [.int .i64 x, .bool b, .slice a n c])
  have hq : (x == z) = r := by rw [← hr]; rfl
  have HQ := Lib.hid hq
  clear hb hc hr
  go_enter Tryz.func105, Tryz.ntmps105
  generalize hW0 : w.alloc (.cells #[.int .i64 x, .bool b, .slice a n c] 67) = W0 at *
  have kx := blkc HX.out (i := 0) rfl
  go_wp2
  go_ret
  exact ⟨by first | rfl | (rw [HQ.out]; done) | (simp [HQ.out]; done), HB.out⟩
set_option maxRecDepth 100000 in
set_option maxHeartbeats 4000000 in
theorem index_found (w : World) (xs : List XV) (z : Int) (a : Option Addr) (n c B : Nat) (i : Nat) (x0 : XV) (hf : FirstX xs z i x0) (hin : XIn w a n c xs) (hc : w.cell? ⟨B, 0, none⟩ = some (.int .i64 z)) :
    Calls Tryz.prog 104 #[.slice a n c, .func (.func 105) #[] #[.pointer (some ⟨B, 0, none⟩)]] w fun e w' => e = .returned (.int .i64 (i : Nat)) ∧ Below w.heap.size w w' := by
  have hm : n ≤ 140737488355328 := hin.2.2.1
  have hl : xs.length = n := hin.1
  have HI := Lib.hid hin
  have HC := Lib.hid hc
  have HL := Lib.hid hl
  have HF := Lib.hid hf
  clear hin hc hl hf
  go_enter Tryz.func104, Tryz.ntmps104
  go_wp2
  go_loopw [8] (fun v wr => ∃ j : Nat, v = .int .i64 (j : Nat) ∧ j ≤ i ∧ Below w.heap.size w wr) (fun v _ => n - (intOf v).toNat)
  case atStart => exact ⟨0, rfl, Nat.zero_le _, Below.refl _ _⟩
  case round =>
    obtain ⟨j, rfl, hj, hbel⟩ := hrel
    have HB := Lib.hid hbel
    have HZ := Lib.hid ((hbel.cell (World.block_lt_of_cell? w _ HC.out)).trans HC.out)
    clear hbel
    by_cases hjn : j < n
    · have hji : (j : Int) < (n : Int) := by omega
      obtain ⟨x, hx⟩ : ∃ x, xs[j]? = some x := ⟨xs[j]'(by have := HL.out; omega), List.getElem?_eq_getElem _⟩
      obtain ⟨g, o, rfl, hrow⟩ := HI.out.2.2.2.2.resolve_left (by omega)
      obtain ⟨hxb, a2, c2, hr, _⟩ := hrow.at hx
      have HR := Lib.hid (rangeAt_below hr HB.out)
      have HX := Lib.hid hx
      obtain ⟨m2, hm2⟩ : ∃ q, x.2.2.length = q := ⟨_, rfl⟩
      rw [hm2] at HR
      clear hr hrow hx hm2
      by_cases hji2 : j = i
      · subst hji2
        have he : x = x0 := by have := HF.out.1; rw [HX.out] at this; injection this
        have hq := Lib.hid (show decide (x.1 = z) = true by rw [he]; exact decide_eq_true HF.out.2.1)
        clear he
        go_wp2_with (first | (refine ldX rfl (.tmp 14) rfl g (o + j * 3) rfl _ _ _ HR.out ?_) | (go_at_call 105; ((with_reducible refine (isX_any _ _ _ _ _ _ _ _ true hq.out HZ.out).mono ?_); rintro e w2 ⟨rfl, hb2⟩; have HB2 := Lib.hid (HB.out.trans (hb2.mono HB.out.size)); clear hb2)))
        go_ret
        exact ⟨rfl, HB2.out⟩
      · have hq := Lib.hid (show decide (x.1 = z) = false from decide_eq_false (HF.out.2.2 j x (by omega) HX.out))
        go_wp2_with (first | (refine ldX rfl (.tmp 14) rfl g (o + j * 3) rfl _ _ _ HR.out ?_) | (go_at_call 105; ((with_reducible refine (isX_any _ _ _ _ _ _ _ _ false hq.out HZ.out).mono ?_); rintro e w2 ⟨rfl, hb2⟩; have HB2 := Lib.hid (HB.out.trans (hb2.mono HB.out.size)); clear hb2)))
        go_roundw
        case rel => exact ⟨j + 1, by go_num, by omega, HB2.out⟩
        case measure => simp [intOf]; omega
    · have hji : ¬ (j : Int) < (n : Int) := by omega
      have h1 := (List.getElem?_eq_some_iff.1 HF.out.1).1
      have h2 := HL.out
      exfalso; omega
set_option maxRecDepth 100000 in
theorem place_found (w : World) (xs : List XV) (z : Int) (a : Option Addr) (n c : Nat) (i : Nat) (x0 : XV) (hf : FirstX xs z i x0) (hin : XIn w a n c xs) : Calls Tryz.prog 73 #[.slice a n c, .int .i64 z] w fun e w' => e = .returned (.int .i64 (i : Nat)) ∧ Below w.heap.size w w' := by
  have hmf : ∀ (fn : Fn) (first cap : Array Value) (w : World), (Instr.makeFunc fn first cap).run Tryz.prog w = .ok (.func fn first cap) w := fun _ _ _ _ => rfl
  have hb := (Below.refl _ w).alloc (Nat.le_refl _) (.cells #[.int .i64 z] 3)
  have HB := Lib.hid hb
  have HC := Lib.hid (blkc (Blk.new w 3 [.int .i64 z]) (i := 0) rfl)
  have HI := Lib.hid (hin.below hb)
  have HF := Lib.hid hf
  clear hb hin hf
  go_enter Tryz.func73, Tryz.ntmps73
  generalize hW0 : w.alloc (.cells #[.int .i64 z] 3) = W0 at *
  go_wp2_with (go_at_call 104; (with_reducible refine (index_found _ xs z _ _ _ _ i x0 HF.out HI.out HC.out).mono ?_); rintro e w2 ⟨rfl, hb2⟩; have HB2 := Lib.hid (HB.out.trans (hb2.mono HB.out.size)); clear hb2)
  go_ret
  exact ⟨rfl, HB2.out⟩
end Go.Proofs.YtbabpmncdphnjaaGreat
namespace Go.Proofs.YtbabpmncdphnjaaGreat
open Go.RowKit
set_option linter.unusedVariables false
set_option maxRecDepth 100000
set_option linter.unusedSimpArgs false
end Go.Proofs.YtbabpmncdphnjaaGreat
