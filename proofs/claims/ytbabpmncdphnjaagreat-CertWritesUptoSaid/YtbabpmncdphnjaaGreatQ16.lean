/- Parts of proofs of statements, each text behind those that it stands on. No condition of its own. -/
import Derived.Test.YtbabpmncdphnjaaGreatQ13
import Derived.Test.YtbabpmncdphnjaaGreatQ14
namespace Go.Proofs.YtbabpmncdphnjaaGreat
open Go.RowKit
set_option linter.unusedVariables false
set_option maxRecDepth 100000
set_option linter.unusedSimpArgs false
theorem KIn.addr {w : World} {a : Option Addr} {c : Nat} {k : Tr} (h : KIn w a c k) (hk : k.len ≠ 0) : ∃ g o, a = some ⟨g, o, none⟩ ∧ Row w k g o := h.2.resolve_left hk
set_option maxRecDepth 100000 in
set_option maxHeartbeats 8000000 in
theorem readName_ok (w : World) (b : List Nat) (a a' : Option Addr) (n c c' : Nat) (hi : ItIn w 48 a c a' c' [] (namK b)) : Calls Tryz.prog 68 #[.agg #[.int .u8 48, .slice a n c, .slice a' 1 c']] w fun e w' => e = .returned (.string (strV b)) ∧ Below w.heap.size w w' := by
  obtain ⟨g1, o1, rfl, hr1⟩ := hi.2.2.addr (by simp [Tr.len])
  obtain ⟨x1, y1, x2, y2, hr1, hi1⟩ := row_at (A := .nil) (i := 0) (r := .nil) hr1 rfl rfl rfl 49 rfl o1 (by omega) (n := 0) (m := 1)
  obtain ⟨g2, o2, rfl, hr2⟩ := hi1.2.2.addr (by simp [Tr.len])
  obtain ⟨x3, y3, x4, y4, hr2, hi2⟩ := row_at (A := .nil) (i := 0) (r := .nil) hr2 rfl rfl rfl 48 rfl o2 (by omega) (n := 0) (m := 2)
  obtain ⟨g3, o3, rfl, hr3⟩ := hi2.2.2.addr (by simp [Tr.len])
  obtain ⟨n5, hn5⟩ : ∃ q, (oidB cnL).length = q := ⟨_, rfl⟩
  obtain ⟨n6, hn6⟩ : ∃ q, b.length = q := ⟨_, rfl⟩
  obtain ⟨a5, c5, x5, y5, hr5, hi5⟩ := row_at (A := .nil) (i := 0) (r := .node 12 b .nil .nil) hr3 rfl hn5 rfl 6 rfl o3 (by omega) (m := 0)
  obtain ⟨a6, c6, x6, y6, hr6, hi6⟩ := row_at (A := .node 6 (oidB cnL) .nil .nil) (i := 1) (r := .nil) hr3 rfl hn6 rfl 12 rfl (o3 + 3) rfl (m := 0)
  have HR1 := Lib.hid hr1
  have HR2 := Lib.hid hr2
  have HR5 := Lib.hid hr5
  have HR6 := Lib.hid hr6
  have HI5 := Lib.hid hi5
  have HI6 := Lib.hid (by have := hi6.2.1; rwa [hn6] at this : BIn w a6 n6 c6 b)
  have HN5 := Lib.hid hn5
  have H00 := Lib.hid ((Below.refl _ w).alloc (Nat.le_refl _) (.cells #[.int .u8 48, .slice a n c, .slice (some ⟨g1, o1, none⟩) 1 c'] 45))
  have HBX := Lib.hid (Blk.new w 45 [.int .u8 48, .slice a n c, .slice (some ⟨g1, o1, none⟩) 1 c'])
  clear hi hr1 hi1 hr2 hi2 hr3 hr5 hi5 hr6 hi6 hn5 hn6
  go_enter Tryz.func68, Tryz.ntmps68
  generalize hW0 : w.alloc (.cells #[.int .u8 48, .slice a n c, .slice (some ⟨g1, o1, none⟩) 1 c'] 45) = W0 at *
  go_wp2_with (first | (refine wpList_load_row (P := Tryz.prog) rfl 45 (.tmp 1) rfl w.heap.size rfl 45 _ _ _ HBX.out Tryz.underlying45 rfl info25 ?_) | (go_at_call 60; (with_reducible refine (parts_ok 48 48 rfl _ _ _ _ _ _ 1 1 1 1 rfl rfl (by decide) (by decide) _).mono ?_); rintro e w2 ⟨rfl, hb2⟩; have H00 := Lib.hid (H00.out.trans (Below.mono hb2 H00.out.size)); clear hb2) | (go_at_call 59; (with_reducible refine (formedK_ok (some ⟨g1, o1, none⟩, 1, c') _).mono ?_); rintro e w_ ⟨rfl, rfl⟩) | (refine ldI rfl (.tmp 11) rfl g1 o1 rfl _ _ _ (rangeAt_below HR1.out H00.out) ?_) | (refine wpList_store_row (P := Tryz.prog) rfl 45 (.tmp 3) (.tmp 12) rfl w2.heap.size #[.int .u8 49, .slice x1 0 y1, .slice (some ⟨g2, o2, none⟩) 1 y2] rfl rfl 45 _ (Blk.new w2 45 [.int .u8 0, .slice none 0 0, .slice none 0 0]) info25 rfl (all_item _ _ _ _ _ _ _) ?_; have hgA : Gr w2 ((w2.alloc (.cells #[.int .u8 0, .slice none 0 0, .slice none 0 0] 45)).setRow w2.heap.size #[.int .u8 49, .slice x1 0 y1, .slice (some ⟨g2, o2, none⟩) 1 y2]) := below_setRow' (Gr.alloc w2 _) (Nat.le_refl _) _; have HX3 := Lib.hid ((Blk.new w2 45 [.int .u8 0, .slice none 0 0, .slice none 0 0]).setRow [.int .u8 49, .slice x1 0 y1, .slice (some ⟨g2, o2, none⟩) 1 y2]); have H00 := Lib.hid (H00.out.trans (Below.mono hgA H00.out.size)); clear hgA; generalize (w2.alloc (.cells #[.int .u8 0, .slice none 0 0, .slice none 0 0] 45)).setRow w2.heap.size #[.int .u8 49, .slice x1 0 y1, .slice (some ⟨g2, o2, none⟩) 1 y2] = w3 at *) | (refine wpList_load_row (P := Tryz.prog) rfl 45 (.tmp 3) rfl w2.heap.size rfl 45 _ _ _ HX3.out Tryz.underlying45 rfl info25 ?_) | (go_at_call 60; (with_reducible refine (parts_ok 49 49 rfl _ _ _ _ _ _ 1 1 1 1 rfl rfl (by decide) (by decide) _).mono ?_); rintro e w4 ⟨rfl, hb4⟩; have H00 := Lib.hid (H00.out.trans (Below.mono hb4 H00.out.size)); clear hb4) | (go_at_call 59; (with_reducible refine (formedK_ok (some ⟨g2, o2, none⟩, 1, y2) _).mono ?_); rintro e w_ ⟨rfl, rfl⟩) | (refine ldI rfl (.tmp 18) rfl g2 o2 rfl _ _ _ (rangeAt_below HR2.out H00.out) ?_) | (refine wpList_store_row (P := Tryz.prog) rfl 45 (.tmp 4) (.tmp 19) rfl w4.heap.size #[.int .u8 48, .slice x3 0 y3, .slice (some ⟨g3, o3, none⟩) 2 y4] rfl rfl 45 _ (Blk.new w4 45 [.int .u8 0, .slice none 0 0, .slice none 0 0]) info25 rfl (all_item _ _ _ _ _ _ _) ?_; have hgA : Gr w4 ((w4.alloc (.cells #[.int .u8 0, .slice none 0 0, .slice none 0 0] 45)).setRow w4.heap.size #[.int .u8 48, .slice x3 0 y3, .slice (some ⟨g3, o3, none⟩) 2 y4]) := below_setRow' (Gr.alloc w4 _) (Nat.le_refl _) _; have HX4 := Lib.hid ((Blk.new w4 45 [.int .u8 0, .slice none 0 0, .slice none 0 0]).setRow [.int .u8 48, .slice x3 0 y3, .slice (some ⟨g3, o3, none⟩) 2 y4]); have H00 := Lib.hid (H00.out.trans (Below.mono hgA H00.out.size)); clear hgA; generalize (w4.alloc (.cells #[.int .u8 0, .slice none 0 0, .slice none 0 0] 45)).setRow w4.heap.size #[.int .u8 48, .slice x3 0 y3, .slice (some ⟨g3, o3, none⟩) 2 y4] = w5 at *) | (refine wpList_load_row (P := Tryz.prog) rfl 45 (.tmp 4) rfl w4.heap.size rfl 45 _ _ _ HX4.out Tryz.underlying45 rfl info25 ?_) | (go_at_call 60; (with_reducible refine (parts_ok 48 48 rfl _ _ _ _ _ _ 2 2 2 2 rfl rfl (by decide) (by decide) _).mono ?_); rintro e w6 ⟨rfl, hb6⟩; have H00 := Lib.hid (H00.out.trans (Below.mono hb6 H00.out.size)); clear hb6) | (go_at_call 59; (with_reducible refine (formedK_ok (some ⟨g3, o3, none⟩, 2, y4) _).mono ?_); rintro e w_ ⟨rfl, rfl⟩))
  have HS0 := Lib.hid (Nat.zero_le w6.heap.size)
  refine wp_region_L (fun w_ => Below w6.heap.size w6 w_) [] [0, 1, 5, 6] (by kernel_rfl) (Below.refl _ _).drew ?_
  refine wpAnyL_pure (fun _ _ hS_ hb_ => gr_bel hS_ hb_) (i := 0) rfl (by kernel_rfl) (fun _ _ _ h => h) (pureG (by rfl) (by intro w_; go_simp; first | done | with_reducible rfl)) ?_
  try simp only [Act.put, List.getElem_toArray, List.getElem_cons_succ, List.getElem_cons_zero, List.setIfInBounds_toArray, List.set_cons_zero, List.set_cons_succ]
  refine wpAnyL_pure (fun _ _ hS_ hb_ => gr_bel hS_ hb_) (i := 1) rfl (by kernel_rfl) (fun _ _ _ h => h) (pureG (by rfl) (by intro w_; go_simp; first | done | with_reducible rfl)) ?_
  try simp only [Act.put, List.getElem_toArray, List.getElem_cons_succ, List.getElem_cons_zero, List.setIfInBounds_toArray, List.set_cons_zero, List.set_cons_succ]
  refine wpAnyL_take (fun _ _ hS_ hb_ => gr_bel hS_ hb_) (i := 2) rfl (by kernel_rfl) (fun _ _ _ h => h) (loadG (by rfl) _ _ rfl g3 o3 rfl [.int .u8 6, .slice a5 n5 c5, .slice x5 0 y5] _ (fun w_ hS_ => rangeAt_below (rangeAt_below HR5.out H00.out) hS_) Tryz.underlying45 rfl info25) ?_
  try simp only [Act.put, List.getElem_toArray, List.getElem_cons_succ, List.getElem_cons_zero, List.setIfInBounds_toArray, List.set_cons_zero, List.set_cons_succ]
  refine wpAnyL_one (i := 3) (by kernel_rfl) (by decide) fun V1 hv1 hS1 => ?_
  have HSV1 : 0 ≤ V1.heap.size := by { have h1 := hS1.size; have h2 := HS0.out; omega }
  refine wpOp_callE (i := 3) rfl (by rfl) rfl Tryz.func101 (by kernel_rfl) (by kernel_rfl) #[] (by simp [Act.eval]) ((itB (base := 0) (ofCommonName_d V1) (Nat.zero_le _) (fun _ h => h.elim)).mono ?_)
  rintro e w1 ⟨a1, n1, c1, b1, m1, d1, hn1, hm1, rfl, hd1, hb1⟩
  have HN1 := Lib.hid hn1; have HM1 := Lib.hid hm1; clear hn1 hm1
  have HD1 := Lib.hid hd1; clear hd1
  refine ⟨_, rfl, Gr.trans hS1 hb1, ?_⟩
  try simp only [Act.put, List.getElem_toArray, List.getElem_cons_succ, List.getElem_cons_zero, List.setIfInBounds_toArray, List.set_cons_zero, List.set_cons_succ]
  refine wpAnyL_one (i := 4) (by kernel_rfl) (by decide) fun V2 hv2 hS2 => ?_
  have HSV2 : 0 ≤ V2.heap.size := by { have h1 := hS2.size; have h2 := HS0.out; omega }
  replace HD1 := Lib.hid (HD1.out.below hv2)
  refine wpOp_callE (i := 4) rfl (by rfl) rfl Tryz.func62 (by kernel_rfl) (by kernel_rfl) #[.agg #[.int .u8 6, .slice a5 n5 c5, .slice x5 0 y5], itV 6 a1 n1 c1 b1 m1 d1] (by simp [Act.eval]) ((one_ok V2 6 6 rfl (oidB cnL) .nil a5 x5 a1 b1 n5 0 n1 m1 c5 y5 c1 d1 HN5.out rfl HN1.out HM1.out (HI5.out.below (Below.trans H00.out (Below.mono hS2 H00.out.size))) HD1.out.now _ rfl).mono ?_)
  rintro e w2 ⟨rfl, hb2⟩
  replace HD1 := Lib.hid (HD1.out.below hb2)
  refine ⟨_, rfl, Gr.trans hS2 hb2, ?_⟩
  try simp only [Act.put, List.getElem_toArray, List.getElem_cons_succ, List.getElem_cons_zero, List.setIfInBounds_toArray, List.set_cons_zero, List.set_cons_succ]
  refine wpAnyL_pure (fun _ _ hS_ hb_ => gr_bel hS_ hb_) (i := 5) rfl (by kernel_rfl) (fun _ _ _ h => h) (pureG (by rfl) (by intro w_; go_simp; first | done | with_reducible rfl)) ?_
  try simp only [Act.put, List.getElem_toArray, List.getElem_cons_succ, List.getElem_cons_zero, List.setIfInBounds_toArray, List.set_cons_zero, List.set_cons_succ]
  refine wpAnyL_pure (fun _ _ hS_ hb_ => gr_bel hS_ hb_) (i := 6) rfl (by kernel_rfl) (fun _ _ _ h => h) (pureG (by rfl) (by intro w_; go_simp; first | done | with_reducible rfl)) ?_
  try simp only [Act.put, List.getElem_toArray, List.getElem_cons_succ, List.getElem_cons_zero, List.setIfInBounds_toArray, List.set_cons_zero, List.set_cons_succ]
  refine wpAnyL_one (i := 7) (by kernel_rfl) (by decide) fun V3 hv3 hS3 => ?_
  have HSV3 : 0 ≤ V3.heap.size := by { have h1 := hS3.size; have h2 := HS0.out; omega }
  replace HD1 := Lib.hid (HD1.out.below hv3)
  refine wpOp_callE (i := 7) rfl (by rfl) rfl Tryz.func61 (by kernel_rfl) (by kernel_rfl) #[.agg #[.int .u8 6, .slice a5 n5 c5, .slice x5 0 y5], .int .i64 0] (by simp [Act.eval]) ((formedI_ok _ _ _ _ _ _ _ V3).mono ?_)
  rintro e w3 ⟨rfl, hb3⟩
  replace HD1 := Lib.hid (HD1.out.below hb3)
  refine ⟨_, rfl, Gr.trans hS3 hb3, ?_⟩
  try simp only [Act.put, List.getElem_toArray, List.getElem_cons_succ, List.getElem_cons_zero, List.setIfInBounds_toArray, List.set_cons_zero, List.set_cons_succ]
  have hSZ := Below.trans hS3 (Below.mono hb3 (Below.size hS3))
  refine wpAnyL_done (by kernel_rfl) ?_ _
  intro W9 hg9
  have hB9 := Below.trans hSZ (Below.mono hg9 (Below.size hSZ))
  have H09 := Lib.hid (H00.out.trans (Below.mono hB9 H00.out.size))
  have H00 := Lib.hid H09.out
  clear hB9 hg9 hSZ
  go_wp2_with (first | (refine ldI rfl (.tmp 34) rfl g3 (o3 + 3) rfl _ _ _ (rangeAt_below HR6.out H00.out) ?_) | (go_at_call 102; (with_reducible refine (body_ok 12 _ _ _ _ _ _ _).mono ?_); rintro e w20 ⟨rfl, hb20⟩; have H00 := Lib.hid (H00.out.trans (Below.mono hb20 H00.out.size)); clear hb20) | (go_at_call 69; (with_reducible refine (formedB_ok (a6, n6, c6) _).mono ?_); rintro e w21 ⟨rfl, rfl⟩; have hcv := bin_str (HI6.out.below H00.out)))
  go_ret
  exact ⟨rfl, H00.out⟩
end Go.Proofs.YtbabpmncdphnjaaGreat
