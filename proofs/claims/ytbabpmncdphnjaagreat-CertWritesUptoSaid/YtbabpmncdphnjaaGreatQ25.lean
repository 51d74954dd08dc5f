/- Parts of proofs of statements, each text behind those that it stands on. No condition of its own. -/
import Derived.Test.YtbabpmncdphnjaaGreatQ23
import Derived.Test.YtbabpmncdphnjaaGreatQ24
namespace Go.Proofs.YtbabpmncdphnjaaGreat
open Go.RowKit
set_option linter.unusedVariables false
set_option maxRecDepth 100000
set_option linter.unusedSimpArgs false
def ItO (B0 base t : Nat) (b : List Nat) (k : Tr) (w : World) (e : Ending) (w' : World) : Prop :=
  ∃ a n c a' m c', b.length = n ∧ k.len = m ∧ e = .returned (itV t a n c a' m c') ∧ Dep (FO B0 base) w' (fun x => ItIn x t a c a' c' b k) ∧ Below w.heap.size w w'
theorem itO {t : Nat} {b : List Nat} {k : Tr} {D : Nat → Prop} {f : FuncId} {args : Array Value} {w : World} (h : Calls Tryz.prog f args w (ItR D t b k w)) {B0 base : Nat} (hb : base ≤ w.heap.size) (hD : ∀ j, D j → FO B0 base j) : Calls Tryz.prog f args w (ItO B0 base t b k w) :=
  h.mono fun e w' ⟨a, n, c, a', m, c', h4, h5, h1, h2, h3⟩ => ⟨a, n, c, a', m, c', h4, h5, h1, h2.mono (fun j hj _ => hj.elim (hD j) (fun h => .inr (Nat.le_trans hb h))), h3⟩
theorem cons_o {B0 base : Nat} {w : World} {t : Nat} (ti : Int) (hti : (t : Int) = ti) {b : List Nat} {k r : Tr} {xr : List Value} {a a' : Option Addr} {n m c c' : Nat} (hn : b.length = n) (hm : k.len = m) (h : Dep (FO B0 base) w (fun x => ItIn x t a c a' c' b k)) (hr : Dep (FO B0 base) w (fun x => Its x r xr)) :
    Dep (FO B0 base) w (fun x => Its x (.node t b k r) (.int .u8 ti :: .slice a n c :: .slice a' m c' :: xr)) := by
  subst hti; exact (dep_cons hn hm h hr).mono (fun j hj _ => by rcases hj with hj | hj <;> exact hj)
theorem seq_o {B0 base : Nat} (w : World) (a : Option Addr) (n c : Nat) (k : Tr) (hn : k.len = n) (hb : base ≤ w.heap.size) (h : Dep (FO B0 base) w (fun x => KIn x a c k)) : Calls Tryz.prog 80 #[.slice a n c] w (ItO B0 base 48 [] k w) :=
  itO (seq_d (FO B0 base) w a n c k hn h) hb (fun _ h => h)
set_option maxRecDepth 100000 in
set_option maxHeartbeats 8000000 in
theorem ofCert_any (w0 w : World) (hw0 : Below w0.heap.size w0 w) (sn : Nat) (hsn : sn < 18446744073709551616) (is su : ByteArray) (ib sb : List Nat) (hib : strL is = ib) (hsb : strL su = sb) (his : is.size ≤ 140737488355328) (hsu : su.size ≤ 140737488355328)
    (ka : Option Addr) (kn kc : Nat) (kb : List Nat) (hk : BIn w ka kn kc kb) (hkn : kn ≤ 140737488351232) (xa : Option Addr) (n xc : Nat) (xs : List XV) (hx : XIn w0 xa n xc xs) (hn16 : n ≤ 16) (hc2 : C2 xs) (sa : Option Addr) (sl sc : Nat) (sg : List Nat) (hs : BIn w sa sl sc sg) (hsl : sl ≤ 140737488351232) :
    Calls Tryz.prog 42 #[certV sn is su ka kn kc xa n xc sa sl sc] w (ItR (fun j => j < w0.heap.size) 48 [] (crtK sn ib sb kb sg (exT xs)) w) := by
  have h00 := ((Below.refl _ w).alloc (Nat.le_refl _) (.cells #[.int .u64 (sn : Nat), .string is, .string su, .slice ka kn kc, .slice xa n xc, .slice sa sl sc] 26)).alloc (by simp) (.cells #[.int .u8 0, .slice none 0 0, .slice none 0 0] 45)
  have HBX := Lib.hid ((Blk.new w 26 [.int .u64 (sn : Nat), .string is, .string su, .slice ka kn kc, .slice xa n xc, .slice sa sl sc]).alloc (.cells #[.int .u8 0, .slice none 0 0, .slice none 0 0] 45))
  have HRS := Lib.hid (Blk.new2 w (.cells #[.int .u64 (sn : Nat), .string is, .string su, .slice ka kn kc, .slice xa n xc, .slice sa sl sc] 26) 45 [.int .u8 0, .slice none 0 0, .slice none 0 0])
  have HS0 := Lib.hid (show w.heap.size + 2 ≤ ((w.alloc (.cells #[.int .u64 (sn : Nat), .string is, .string su, .slice ka kn kc, .slice xa n xc, .slice sa sl sc] 26)).alloc (.cells #[.int .u8 0, .slice none 0 0, .slice none 0 0] 45)).heap.size by simp)
  have H00 := Lib.hid h00
  have HK := Lib.hid (hk.below h00)
  have HG := Lib.hid (hs.below h00)
  have HKN := Lib.hid hkn
  have HSL := Lib.hid hsl
  have HI := Lib.hid hib
  have HSB := Lib.hid hsb
  have HIS := Lib.hid his
  have HSU := Lib.hid hsu
  have HSN := Lib.hid hsn
  have HX := Lib.hid hx
  have HN16 := Lib.hid hn16
  have HCC2 := Lib.hid hc2
  have HW := Lib.hid (hw0.trans (Below.mono h00 hw0.size))
  have HWS := Lib.hid (show w0.heap.size ≤ w.heap.size from hw0.size)
  clear h00 hk hkn hib hsb his hsu hsn hs hsl hx hn16 hc2 hw0
  go_enter Tryz.func42, Tryz.ntmps42
  go_wp2_with fail
  generalize (w.alloc (.cells #[.int .u64 (sn : Nat), .string is, .string su, .slice ka kn kc, .slice xa n xc, .slice sa sl sc] 26)).alloc (.cells #[.int .u8 0, .slice none 0 0, .slice none 0 0] 45) = W0 at *
  have k5 := blkc HBX.out (i := 5) rfl
  refine wp_region_L (fun w_ => Below W0.heap.size W0 w_) [8] [3, 8] (by kernel_rfl) (Below.refl _ _).drew ?_
  refine wpAnyL_pure (fun _ _ hS_ hb_ => gr_bel hS_ hb_) (i := 3) rfl (by kernel_rfl) (fun _ _ _ h => h) (pureG (by rfl) (by intro w_; go_simp; first | done | with_reducible rfl)) ?_
  try simp only [Act.put, List.getElem_toArray, List.getElem_cons_succ, List.getElem_cons_zero, List.setIfInBounds_toArray, List.set_cons_zero, List.set_cons_succ]
  refine wpAnyL_take (fun _ _ hS_ hb_ => gr_bel hS_ hb_) (i := 0) rfl (by kernel_rfl) (fun _ _ _ h => h) (loadG (by rfl) _ _ rfl w.heap.size 0 rfl [.int .u64 (sn : Nat), .string is, .string su, .slice ka kn kc, .slice xa n xc, .slice sa sl sc] _ (fun w_ hS_ => rangeAt_below (blk_all6 HBX.out) hS_) Tryz.underlying26 rfl info55) ?_
  try simp only [Act.put, List.getElem_toArray, List.getElem_cons_succ, List.getElem_cons_zero, List.setIfInBounds_toArray, List.set_cons_zero, List.set_cons_succ]
  refine wpAnyL_take (fun _ _ hS_ hb_ => gr_bel hS_ hb_) (i := 4) rfl (by kernel_rfl) (fun _ _ _ h => h) (worldG (by rfl) (by intro w_ hS_; have q := (hS_.cell (World.block_lt_of_cell? W0 _ k5)).trans k5; go_simp; first | done | with_reducible rfl)) ?_
  try simp only [Act.put, List.getElem_toArray, List.getElem_cons_succ, List.getElem_cons_zero, List.setIfInBounds_toArray, List.set_cons_zero, List.set_cons_succ]
  refine wpAnyL_one (i := 1) (by kernel_rfl) (by decide) fun V1 hv1 hS1 => ?_
  have HSV1 : w.heap.size + 2 ≤ V1.heap.size := by { have h1 := hS1.size; have h2 := HS0.out; omega }
  replace HK := Lib.hid (HK.out.below hS1)
  replace HG := Lib.hid (HG.out.below hS1)
  refine wpOp_callE (i := 1) rfl (by rfl) rfl Tryz.func40 (by kernel_rfl) (by kernel_rfl) #[certV sn is su ka kn kc xa n xc sa sl sc] (by simp [Act.eval]) ((itO (B0 := w0.heap.size) (base := w.heap.size + 2) (ofSigned_any w0 V1 (HW.out.trans (Below.mono hS1 HW.out.size)) sn HSN.out is su ib sb HI.out HSB.out HIS.out HSU.out ka kn kc kb HK.out HKN.out xa n xc xs HX.out HN16.out HCC2.out sa sl sc) HSV1 (fun _ h => .inl h)).mono ?_)
  rintro e w1 ⟨a1, n1, c1, b1, m1, d1, hn1, hm1, rfl, hd1, hb1⟩
  have HN1 := Lib.hid hn1; have HM1 := Lib.hid hm1; clear hn1 hm1
  replace HK := Lib.hid (HK.out.below hb1)
  replace HG := Lib.hid (HG.out.below hb1)
  have HD1 := Lib.hid hd1; clear hd1
  refine ⟨_, rfl, Gr.trans hS1 hb1, ?_⟩
  try simp only [Act.put, List.getElem_toArray, List.getElem_cons_succ, List.getElem_cons_zero, List.setIfInBounds_toArray, List.set_cons_zero, List.set_cons_succ]
  refine wpAnyL_one (i := 2) (by kernel_rfl) (by decide) fun V2 hv2 hS2 => ?_
  have HSV2 : w.heap.size + 2 ≤ V2.heap.size := by { have h1 := hS2.size; have h2 := HS0.out; omega }
  replace HK := Lib.hid (HK.out.below hv2)
  replace HG := Lib.hid (HG.out.below hv2)
  replace HD1 := Lib.hid (HD1.out.below hv2)
  refine wpOp_callE (i := 2) rfl (by rfl) rfl Tryz.func63 (by kernel_rfl) (by kernel_rfl) #[] (by simp [Act.eval]) ((itO (B0 := w0.heap.size) (base := w.heap.size + 2) (ofAlgorithm_d V2) HSV2 (fun _ h => h.elim)).mono ?_)
  rintro e w2 ⟨a2, n2, c2, b2, m2, d2, hn2, hm2, rfl, hd2, hb2⟩
  have HN2 := Lib.hid hn2; have HM2 := Lib.hid hm2; clear hn2 hm2
  replace HK := Lib.hid (HK.out.below hb2)
  replace HG := Lib.hid (HG.out.below hb2)
  replace HD1 := Lib.hid (HD1.out.below hb2)
  have HD2 := Lib.hid hd2; clear hd2
  refine ⟨_, rfl, Gr.trans hS2 hb2, ?_⟩
  try simp only [Act.put, List.getElem_toArray, List.getElem_cons_succ, List.getElem_cons_zero, List.setIfInBounds_toArray, List.set_cons_zero, List.set_cons_succ]
  refine wpAnyL_one (i := 5) (by kernel_rfl) (by decide) fun V3 hv3 hS3 => ?_
  have HSV3 : w.heap.size + 2 ≤ V3.heap.size := by { have h1 := hS3.size; have h2 := HS0.out; omega }
  replace HK := Lib.hid (HK.out.below hv3)
  replace HG := Lib.hid (HG.out.below hv3)
  replace HD1 := Lib.hid (HD1.out.below hv3)
  replace HD2 := Lib.hid (HD2.out.below hv3)
  refine wpOp_callE (i := 5) rfl (by rfl) rfl Tryz.func81 (by kernel_rfl) (by kernel_rfl) #[.slice sa sl sc] (by simp [Act.eval]) ((itO (B0 := w0.heap.size) (base := w.heap.size + 2) (OfBits_d V3 sg sa sl sc HG.out HSL.out) HSV3 (fun _ h => h.elim)).mono ?_)
  rintro e w3 ⟨a3, n3, c3, b3, m3, d3, hn3, hm3, rfl, hd3, hb3⟩
  have HN3 := Lib.hid hn3; have HM3 := Lib.hid hm3; clear hn3 hm3
  replace HK := Lib.hid (HK.out.below hb3)
  replace HG := Lib.hid (HG.out.below hb3)
  replace HD1 := Lib.hid (HD1.out.below hb3)
  replace HD2 := Lib.hid (HD2.out.below hb3)
  have HD3 := Lib.hid hd3; clear hd3
  refine ⟨_, rfl, Gr.trans hS3 hb3, ?_⟩
  try simp only [Act.put, List.getElem_toArray, List.getElem_cons_succ, List.getElem_cons_zero, List.setIfInBounds_toArray, List.set_cons_zero, List.set_cons_succ]
  refine wpAnyL_one (i := 6) (by kernel_rfl) (by decide) fun V6 hv6 hS6 => ?_
  have HSV6 : w.heap.size + 2 ≤ V6.heap.size := by { have h1 := hS6.size; have h2 := HS0.out; omega }
  replace HK := Lib.hid (HK.out.below hv6)
  replace HG := Lib.hid (HG.out.below hv6)
  replace HD1 := Lib.hid (HD1.out.below hv6)
  replace HD2 := Lib.hid (HD2.out.below hv6)
  replace HD3 := Lib.hid (HD3.out.below hv6)
  refine wpOp_run (i := 6) (v := .slice (some ⟨V6.heap.size, 0, none⟩) 3 3) (W2 := V6.alloc (.cells #[.int .u8 48, .slice a1 n1 c1, .slice b1 m1 d1, .int .u8 48, .slice a2 n2 c2, .slice b2 m2 d2, .int .u8 3, .slice a3 n3 c3, .slice b3 m3 d3] 45)) rfl (by rfl) (by go_simp; first | done | rfl) ?_
  refine ⟨hS6.alloc hS6.size _, ?_⟩
  try simp only [Act.put, List.getElem_toArray, List.getElem_cons_succ, List.getElem_cons_zero, List.setIfInBounds_toArray, List.set_cons_zero, List.set_cons_succ]
  have HLT := Lib.hid (lit_o (T := crtK sn ib sb kb sg (exT xs)) (n := 3) (cons_o 48 rfl HN1.out HM1.out HD1.out (cons_o 48 rfl HN2.out HM2.out HD2.out (cons_o 3 rfl HN3.out HM3.out HD3.out dep_its0))) rfl (by decide) HSV6)
  replace HK := Lib.hid (HK.out.below (Gr.alloc V6 (.cells #[.int .u8 48, .slice a1 n1 c1, .slice b1 m1 d1, .int .u8 48, .slice a2 n2 c2, .slice b2 m2 d2, .int .u8 3, .slice a3 n3 c3, .slice b3 m3 d3] 45)))
  replace HG := Lib.hid (HG.out.below (Gr.alloc V6 (.cells #[.int .u8 48, .slice a1 n1 c1, .slice b1 m1 d1, .int .u8 48, .slice a2 n2 c2, .slice b2 m2 d2, .int .u8 3, .slice a3 n3 c3, .slice b3 m3 d3] 45)))
  replace HD1 := Lib.hid (HD1.out.below (Gr.alloc V6 (.cells #[.int .u8 48, .slice a1 n1 c1, .slice b1 m1 d1, .int .u8 48, .slice a2 n2 c2, .slice b2 m2 d2, .int .u8 3, .slice a3 n3 c3, .slice b3 m3 d3] 45)))
  replace HD2 := Lib.hid (HD2.out.below (Gr.alloc V6 (.cells #[.int .u8 48, .slice a1 n1 c1, .slice b1 m1 d1, .int .u8 48, .slice a2 n2 c2, .slice b2 m2 d2, .int .u8 3, .slice a3 n3 c3, .slice b3 m3 d3] 45)))
  replace HD3 := Lib.hid (HD3.out.below (Gr.alloc V6 (.cells #[.int .u8 48, .slice a1 n1 c1, .slice b1 m1 d1, .int .u8 48, .slice a2 n2 c2, .slice b2 m2 d2, .int .u8 3, .slice a3 n3 c3, .slice b3 m3 d3] 45)))
  refine wpAnyL_one (i := 7) (by kernel_rfl) (by decide) fun V7 hv7 hS7 => ?_
  have HSV7 : w.heap.size + 2 ≤ V7.heap.size := by { have h1 := hS7.size; have h2 := HS0.out; omega }
  replace HK := Lib.hid (HK.out.below hv7)
  replace HG := Lib.hid (HG.out.below hv7)
  replace HD1 := Lib.hid (HD1.out.below hv7)
  replace HD2 := Lib.hid (HD2.out.below hv7)
  replace HD3 := Lib.hid (HD3.out.below hv7)
  replace HLT := Lib.hid (HLT.out.below hv7)
  refine wpOp_callE (i := 7) rfl (by rfl) rfl Tryz.func80 (by kernel_rfl) (by kernel_rfl) #[.slice (some ⟨V6.heap.size, 0, none⟩) 3 3] (by simp [Act.eval]) ((seq_o V7 _ 3 3 (crtK sn ib sb kb sg (exT xs)) rfl HSV7 HLT.out).mono ?_)
  rintro e w7 ⟨a7, n7, c7, b7, m7, d7, hn7, hm7, rfl, hd7, hb7⟩
  have HN7 := Lib.hid hn7; have HM7 := Lib.hid hm7; clear hn7 hm7
  replace HK := Lib.hid (HK.out.below hb7)
  replace HG := Lib.hid (HG.out.below hb7)
  replace HD1 := Lib.hid (HD1.out.below hb7)
  replace HD2 := Lib.hid (HD2.out.below hb7)
  replace HD3 := Lib.hid (HD3.out.below hb7)
  replace HLT := Lib.hid (HLT.out.below hb7)
  have HD7 := Lib.hid hd7; clear hd7
  refine ⟨_, rfl, Gr.trans hS7 hb7, ?_⟩
  try simp only [Act.put, List.getElem_toArray, List.getElem_cons_succ, List.getElem_cons_zero, List.setIfInBounds_toArray, List.set_cons_zero, List.set_cons_succ]
  refine wpAnyL_oneF (i := 8) (by kernel_rfl) (by decide) (by kernel_rfl) (by decide) fun V8 hv8 => ?_
  have hB8 := Below.trans hS7 (Below.mono (hb7.trans (Below.mono hv8 hb7.size)) hS7.size)
  replace HD7 := Lib.hid (HD7.out.below hv8)
  refine (StoresG.mk (g := w.heap.size + 1) (t := 45) (cs := [.int .u8 48, .slice a7 n7 c7, .slice b7 m7 d7]) (by rfl) _ _ _ rfl rfl rfl info25 (by intro v hv; simp at hv; rcases hv with rfl | rfl | rfl <;> rfl)).wpOp (i := 8) rfl (HRS.out.below' hB8) rfl ?_
  try simp only [Act.put, List.getElem_toArray, List.getElem_cons_succ, List.getElem_cons_zero, List.setIfInBounds_toArray, List.set_cons_zero, List.set_cons_succ]
  clear hB8
  refine wpAnyL_done (by kernel_rfl) ?_ _
  intro W9 hg9
  have hB9 := Below.trans hS7 (Below.mono (hb7.trans (Below.mono hv8 hb7.size)) hS7.size)
  have hrow := (below_setRow' (H00.out.trans (hB9.mono H00.out.size)) (Nat.le_succ w.heap.size) #[.int .u8 48, .slice a7 n7 c7, .slice b7 m7 d7])
  have HB10 := Lib.hid (hrow.trans (Below.mono hg9 hrow.size))
  have HRS9 := Lib.hid ((((HRS.out.below' hB9).setRow [.int .u8 48, .slice a7 n7 c7, .slice b7 m7 d7])).below' hg9)
  have hd9 := (HD7.out.row (w.heap.size + 1) #[.int .u8 48, .slice a7 n7 c7, .slice b7 m7 d7] (fun h => by have := HWS.out; rcases h with h | h <;> omega)).below hg9
  go_wp2_with fail
  refine bodyPost_ret (results_one Tryz.results42 _ _ (w.heap.size + 1) 45 _ (0, 0) _ rfl HRS9.out Tryz.underlying45 rfl info25) rfl ?_
  exact ⟨a7, n7, c7, b7, m7, d7, HN7.out, HM7.out, rfl, hd9.mono (fun j hj _ => by rcases hj with h | h; exact .inl h; exact .inr (by omega)), HB10.out⟩
end Go.Proofs.YtbabpmncdphnjaaGreat
namespace Go.Proofs.YtbabpmncdphnjaaGreat
open Go.RowKit
set_option linter.unusedVariables false
set_option maxRecDepth 100000
set_option linter.unusedSimpArgs false
theorem dep_str {W : World} {g cap m : Nat} {s : ByteArray} {fr : Nat × Nat} (h : W.heap[g]? = some (.cells (bytesRow s cap) 5 fr)) (hc : s.size ≤ cap) (hm : cap ≤ maxLen) (hs : s.size ≤ 140737488355328) (hg : m ≤ g) {b : List Nat} (hb : strL s = b) : Dep (FB m) W (fun x => BIn x (some ⟨g, 0, none⟩) s.size cap b) := by
  intro w'' hw
  have h2 := (hw g hg (Array.getElem?_eq_some_iff.1 h).1).trans h
  have h4 := str_in h2 hc hm hs
  rwa [hb] at h4
set_option maxRecDepth 100000 in
set_option maxHeartbeats 8000000 in
theorem rname_d (w : World) (s : ByteArray) (b : List Nat) (hb : strL s = b) (hs : s.size ≤ 140737488355328) : Calls Tryz.prog 46 #[.string s] w (ItR NoD 48 [] (namK b) w) := by
  have B0 := Lib.hid (Blk.new w 45 [.int .u8 0, .slice none 0 0, .slice none 0 0])
  have BEL := Lib.hid ((Below.refl _ w).alloc (Nat.le_refl _) (.cells #[.int .u8 0, .slice none 0 0, .slice none 0 0] 45))
  have HSW1 := Lib.hid (show w.heap.size + 1 ≤ (w.alloc (.cells #[.int .u8 0, .slice none 0 0, .slice none 0 0] 45)).heap.size by simp)
  have HBB := Lib.hid hb
  have HSS := Lib.hid hs
  have HLB := Lib.hid (show b.length = s.size by rw [← hb]; exact strL_len s)
  clear hb hs
  go_enter Tryz.func46, Tryz.ntmps46
  generalize hW1 : w.alloc (.cells #[.int .u8 0, .slice none 0 0, .slice none 0 0] 45) = W1 at *
  go_upto_region 2 with (first
    | (go_at_call 87; go_loud ((with_reducible refine (roid_r cn_ok (wlit W1 [2, 5, 4, 3] #[.int .u64 2, .int .u64 5, .int .u64 4, .int .u64 3] 4 rfl rfl (by decide) (by decide))).mono ?_); rintro e w2 ⟨a2, n2, c2, hn2, rfl, hd2, hb2⟩; have HN2 := Lib.hid hn2; have hg2 : Gr W1 w2 := (Gr.alloc _ _).trans hb2; have HS2 := Lib.hid (show w.heap.size + 1 ≤ w2.heap.size from Nat.le_trans HSW1.out hg2.size); have HD2 := Lib.hid (dep_new (hd2.mono (E := FB (w.heap.size + 1)) (fun j hj _ => Nat.le_trans HSW1.out (Nat.le_trans (Gr.alloc W1 _).size hj))) (.cells #[.int .u8 0, .slice none 0 0, .slice none 0 0] 45) #[.int .u8 6, .slice a2 n2 c2, .slice none 0 0]); have HZ2 := Lib.hid (Blk.new w2 45 [.int .u8 0, .slice none 0 0, .slice none 0 0]); have HB3 := Lib.hid ((Blk.new w2 45 [.int .u8 0, .slice none 0 0, .slice none 0 0]).setRow [.int .u8 6, .slice a2 n2 c2, .slice none 0 0]); have HRS := Lib.hid (((B0.out.below' hg2).alloc (.cells #[.int .u8 0, .slice none 0 0, .slice none 0 0] 45)).row #[.int .u8 6, .slice a2 n2 c2, .slice none 0 0] (show w.heap.size ≠ w2.heap.size by have := HS2.out; omega)); have h20 := BEL.out.trans (Below.mono hg2 BEL.out.size); have H00 := Lib.hid (below_setRow' (h20.alloc h20.size (.cells #[.int .u8 0, .slice none 0 0, .slice none 0 0] 45)) (show w.heap.size ≤ w2.heap.size by have := HS2.out; omega) #[.int .u8 6, .slice a2 n2 c2, .slice none 0 0]); clear hn2 hd2 hb2 hg2 h20))
    | (refine wpList_store_row (P := Tryz.prog) rfl 45 (.tmp 3) (.tmp 8) rfl w2.heap.size #[.int .u8 6, .slice a2 n2 c2, .slice none 0 0] rfl rfl 45 _ HZ2.out info25 rfl (all_item _ _ _ _ _ _ _) ?_))
  obtain ⟨W0, hW0⟩ : ∃ W0, (w2.alloc (.cells #[.int .u8 0, .slice none 0 0, .slice none 0 0] 45)).setRow w2.heap.size #[.int .u8 6, .slice a2 n2 c2, .slice none 0 0] = W0 := ⟨_, rfl⟩
  rw [hW0]
  rw [hW0] at HD2 HB3 HRS H00
  have HS0 := Lib.hid (show w.heap.size + 1 ≤ W0.heap.size by rw [← hW0]; have := HS2.out; simp; omega)
  clear hW0 HZ2
  refine wp_region_L (fun w_ => Below W0.heap.size W0 w_) [10] [1, 10] (by kernel_rfl) (Below.refl _ _).drew ?_
  refine wpAnyL_pure (fun _ _ hS_ hb_ => gr_bel hS_ hb_) (i := 1) rfl (by kernel_rfl) (fun _ _ _ h => h) (pureG (by rfl) (by intro w_; go_simp; first | done | with_reducible rfl)) ?_
  try simp only [Act.put, List.getElem_toArray, List.getElem_cons_succ, List.getElem_cons_zero, List.setIfInBounds_toArray, List.set_cons_zero, List.set_cons_succ]
  refine wpAnyL_take (fun _ _ hS_ hb_ => gr_bel hS_ hb_) (i := 0) rfl (by kernel_rfl) (fun _ _ _ h => h) (loadG (by rfl) _ _ rfl w2.heap.size 0 rfl [.int .u8 6, .slice a2 n2 c2, .slice none 0 0] _ (fun w_ hS_ => rangeAt_below (blk_all6 HB3.out) hS_) Tryz.underlying45 rfl info25) ?_
  try simp only [Act.put, List.getElem_toArray, List.getElem_cons_succ, List.getElem_cons_zero, List.setIfInBounds_toArray, List.set_cons_zero, List.set_cons_succ]
  refine wpAnyL_one (i := 2) (by kernel_rfl) (by decide) fun V3 hv3 hS3 => ?_
  have HSV3 : w.heap.size + 1 ≤ V3.heap.size := by { have h1 := hS3.size; have h2 := HS0.out; omega }
  replace HD2 := Lib.hid (HD2.out.below hS3)
  have hcv := run_bytes_of_string (P := Tryz.prog) V3 9 22 5 s Tryz.underlying9 Tryz.underlying22 Tryz.underlying5
  have hg1 : s.size ≤ grownCap V3 s.size 0 5 := grownCap_ge _ _ _ _
  have hg2 : grownCap V3 s.size 0 5 ≤ maxLen := grownCap_le_maxLen _ _ _ _ (by have := HSS.out; simp only [maxLen]; omega)
  generalize grownCap V3 s.size 0 5 = cp at *
  refine wpOp_run (i := 2) (v := .slice (some ⟨V3.heap.size, 0, none⟩) s.size cp) (W2 := V3.drew.alloc (.cells (bytesRow s cp) 5 ((bytesRow s cp).size, (bytesRow s cp).size + 1))) rfl (by rfl) (by go_simp; first | done | rfl) ?_
  have hgr : Gr V3 (V3.drew.alloc (.cells (bytesRow s cp) 5 ((bytesRow s cp).size, (bytesRow s cp).size + 1))) := (Gr.drew V3).trans (Gr.alloc _ _)
  refine ⟨Gr.trans hS3 hgr, ?_⟩
  try simp only [Act.put, List.getElem_toArray, List.getElem_cons_succ, List.getElem_cons_zero, List.setIfInBounds_toArray, List.set_cons_zero, List.set_cons_succ]
  have HT3 := Lib.hid (dep_str (m := w.heap.size + 1) (show (V3.drew.alloc (.cells (bytesRow s cp) 5 ((bytesRow s cp).size, (bytesRow s cp).size + 1))).heap[V3.heap.size]? = some (.cells (bytesRow s cp) 5 ((bytesRow s cp).size, (bytesRow s cp).size + 1)) from heap_alloc_new V3.drew _) hg1 hg2 HSS.out HSV3 HBB.out)
  replace HD2 := Lib.hid (HD2.out.below hgr)
  clear hcv hgr
  refine wpAnyL_one (i := 3) (by kernel_rfl) (by decide) fun V4 hv4 hS4 => ?_
  have HSV4 : w.heap.size + 1 ≤ V4.heap.size := by { have h1 := hS4.size; have h2 := HS0.out; omega }
  replace HD2 := Lib.hid (HD2.out.below hv4)
  replace HT3 := Lib.hid (HT3.out.below hv4)
  refine wpOp_callE (i := 3) rfl (by rfl) rfl Tryz.func88 (by kernel_rfl) (by kernel_rfl) #[.int .u8 12, .slice (some ⟨V3.heap.size, 0, none⟩) s.size cp] (by simp [Act.eval]) ((rplain_b (base := w.heap.size + 1) 12 12 rfl (by decide) V4 _ s.size cp b HLB.out HSS.out HSV4 HT3.out).mono ?_)
  rintro e w4 ⟨a4, n4, c4, b4, m4, d4, hn4, hm4, rfl, hd4, hb4⟩
  have HN4 := Lib.hid hn4; have HM4 := Lib.hid hm4; clear hn4 hm4
  replace HD2 := Lib.hid (HD2.out.below hb4)
  replace HT3 := Lib.hid (HT3.out.below hb4)
  have HD4 := Lib.hid hd4; clear hd4
  refine ⟨_, rfl, Gr.trans hS4 hb4, ?_⟩
  try simp only [Act.put, List.getElem_toArray, List.getElem_cons_succ, List.getElem_cons_zero, List.setIfInBounds_toArray, List.set_cons_zero, List.set_cons_succ]
  refine wpAnyL_one (i := 4) (by kernel_rfl) (by decide) fun V5 hv5 hS5 => ?_
  have HSV5 : w.heap.size + 1 ≤ V5.heap.size := by { have h1 := hS5.size; have h2 := HS0.out; omega }
  replace HD2 := Lib.hid (HD2.out.below hv5)
  replace HT3 := Lib.hid (HT3.out.below hv5)
  replace HD4 := Lib.hid (HD4.out.below hv5)
  refine wpOp_run (i := 4) (v := .slice (some ⟨V5.heap.size, 0, none⟩) 2 2) (W2 := V5.alloc (.cells #[.int .u8 6, .slice a2 n2 c2, .slice none 0 0, .int .u8 12, .slice a4 n4 c4, .slice b4 m4 d4] 45)) rfl (by rfl) (by go_simp; first | done | rfl) ?_
  refine ⟨hS5.alloc hS5.size _, ?_⟩
  try simp only [Act.put, List.getElem_toArray, List.getElem_cons_succ, List.getElem_cons_zero, List.setIfInBounds_toArray, List.set_cons_zero, List.set_cons_succ]
  have HL5 := Lib.hid (lit_b (T := cnT b) (n := 2) (cons_b 6 rfl HN2.out rfl HD2.out (cons_b 12 rfl HN4.out HM4.out HD4.out nil_b)) rfl (by decide) HSV5)
  replace HD2 := Lib.hid (HD2.out.below (Gr.alloc V5 (.cells #[.int .u8 6, .slice a2 n2 c2, .slice none 0 0, .int .u8 12, .slice a4 n4 c4, .slice b4 m4 d4] 45)))
  replace HT3 := Lib.hid (HT3.out.below (Gr.alloc V5 (.cells #[.int .u8 6, .slice a2 n2 c2, .slice none 0 0, .int .u8 12, .slice a4 n4 c4, .slice b4 m4 d4] 45)))
  replace HD4 := Lib.hid (HD4.out.below (Gr.alloc V5 (.cells #[.int .u8 6, .slice a2 n2 c2, .slice none 0 0, .int .u8 12, .slice a4 n4 c4, .slice b4 m4 d4] 45)))
  refine wpAnyL_one (i := 5) (by kernel_rfl) (by decide) fun V6 hv6 hS6 => ?_
  have HSV6 : w.heap.size + 1 ≤ V6.heap.size := by { have h1 := hS6.size; have h2 := HS0.out; omega }
  replace HD2 := Lib.hid (HD2.out.below hv6)
  replace HT3 := Lib.hid (HT3.out.below hv6)
  replace HD4 := Lib.hid (HD4.out.below hv6)
  replace HL5 := Lib.hid (HL5.out.below hv6)
  refine wpOp_callE (i := 5) rfl (by rfl) rfl Tryz.func24 (by kernel_rfl) (by kernel_rfl) #[.int .u8 48, .slice (some ⟨V5.heap.size, 0, none⟩) 2 2] (by simp [Act.eval]) ((rseq_b 48 48 rfl (by decide) V6 _ 2 2 (cnT b) rfl HSV6 HL5.out).mono ?_)
  rintro e w6 ⟨a6, n6, c6, b6, m6, d6, hn6, hm6, rfl, hd6, hb6⟩
  have HN6 := Lib.hid hn6; have HM6 := Lib.hid hm6; clear hn6 hm6
  replace HD2 := Lib.hid (HD2.out.below hb6)
  replace HT3 := Lib.hid (HT3.out.below hb6)
  replace HD4 := Lib.hid (HD4.out.below hb6)
  replace HL5 := Lib.hid (HL5.out.below hb6)
  have HD6 := Lib.hid hd6; clear hd6
  refine ⟨_, rfl, Gr.trans hS6 hb6, ?_⟩
  try simp only [Act.put, List.getElem_toArray, List.getElem_cons_succ, List.getElem_cons_zero, List.setIfInBounds_toArray, List.set_cons_zero, List.set_cons_succ]
  refine wpAnyL_one (i := 6) (by kernel_rfl) (by decide) fun V7 hv7 hS7 => ?_
  have HSV7 : w.heap.size + 1 ≤ V7.heap.size := by { have h1 := hS7.size; have h2 := HS0.out; omega }
  replace HD2 := Lib.hid (HD2.out.below hv7)
  replace HT3 := Lib.hid (HT3.out.below hv7)
  replace HD4 := Lib.hid (HD4.out.below hv7)
  replace HL5 := Lib.hid (HL5.out.below hv7)
  replace HD6 := Lib.hid (HD6.out.below hv7)
  refine wpOp_run (i := 6) (v := .slice (some ⟨V7.heap.size, 0, none⟩) 1 1) (W2 := V7.alloc (.cells #[.int .u8 48, .slice a6 n6 c6, .slice b6 m6 d6] 45)) rfl (by rfl) (by go_simp; first | done | rfl) ?_
  refine ⟨hS7.alloc hS7.size _, ?_⟩
  try simp only [Act.put, List.getElem_toArray, List.getElem_cons_succ, List.getElem_cons_zero, List.setIfInBounds_toArray, List.set_cons_zero, List.set_cons_succ]
  have HL7 := Lib.hid (lit_b (T := setT b) (n := 1) (cons_b 48 rfl HN6.out HM6.out HD6.out nil_b) rfl (by decide) HSV7)
  replace HD2 := Lib.hid (HD2.out.below (Gr.alloc V7 (.cells #[.int .u8 48, .slice a6 n6 c6, .slice b6 m6 d6] 45)))
  replace HT3 := Lib.hid (HT3.out.below (Gr.alloc V7 (.cells #[.int .u8 48, .slice a6 n6 c6, .slice b6 m6 d6] 45)))
  replace HD4 := Lib.hid (HD4.out.below (Gr.alloc V7 (.cells #[.int .u8 48, .slice a6 n6 c6, .slice b6 m6 d6] 45)))
  replace HL5 := Lib.hid (HL5.out.below (Gr.alloc V7 (.cells #[.int .u8 48, .slice a6 n6 c6, .slice b6 m6 d6] 45)))
  replace HD6 := Lib.hid (HD6.out.below (Gr.alloc V7 (.cells #[.int .u8 48, .slice a6 n6 c6, .slice b6 m6 d6] 45)))
  refine wpAnyL_one (i := 7) (by kernel_rfl) (by decide) fun V8 hv8 hS8 => ?_
  have HSV8 : w.heap.size + 1 ≤ V8.heap.size := by { have h1 := hS8.size; have h2 := HS0.out; omega }
  replace HD2 := Lib.hid (HD2.out.below hv8)
  replace HT3 := Lib.hid (HT3.out.below hv8)
  replace HD4 := Lib.hid (HD4.out.below hv8)
  replace HL5 := Lib.hid (HL5.out.below hv8)
  replace HD6 := Lib.hid (HD6.out.below hv8)
  replace HL7 := Lib.hid (HL7.out.below hv8)
  refine wpOp_callE (i := 7) rfl (by rfl) rfl Tryz.func24 (by kernel_rfl) (by kernel_rfl) #[.int .u8 49, .slice (some ⟨V7.heap.size, 0, none⟩) 1 1] (by simp [Act.eval]) ((rseq_b 49 49 rfl (by decide) V8 _ 1 1 (setT b) rfl HSV8 HL7.out).mono ?_)
  rintro e w8 ⟨a8, n8, c8, b8, m8, d8, hn8, hm8, rfl, hd8, hb8⟩
  have HN8 := Lib.hid hn8; have HM8 := Lib.hid hm8; clear hn8 hm8
  replace HD2 := Lib.hid (HD2.out.below hb8)
  replace HT3 := Lib.hid (HT3.out.below hb8)
  replace HD4 := Lib.hid (HD4.out.below hb8)
  replace HL5 := Lib.hid (HL5.out.below hb8)
  replace HD6 := Lib.hid (HD6.out.below hb8)
  replace HL7 := Lib.hid (HL7.out.below hb8)
  have HD8 := Lib.hid hd8; clear hd8
  refine ⟨_, rfl, Gr.trans hS8 hb8, ?_⟩
  try simp only [Act.put, List.getElem_toArray, List.getElem_cons_succ, List.getElem_cons_zero, List.setIfInBounds_toArray, List.set_cons_zero, List.set_cons_succ]
  refine wpAnyL_one (i := 8) (by kernel_rfl) (by decide) fun V9 hv9 hS9 => ?_
  have HSV9 : w.heap.size + 1 ≤ V9.heap.size := by { have h1 := hS9.size; have h2 := HS0.out; omega }
  replace HD2 := Lib.hid (HD2.out.below hv9)
  replace HT3 := Lib.hid (HT3.out.below hv9)
  replace HD4 := Lib.hid (HD4.out.below hv9)
  replace HL5 := Lib.hid (HL5.out.below hv9)
  replace HD6 := Lib.hid (HD6.out.below hv9)
  replace HL7 := Lib.hid (HL7.out.below hv9)
  replace HD8 := Lib.hid (HD8.out.below hv9)
  refine wpOp_run (i := 8) (v := .slice (some ⟨V9.heap.size, 0, none⟩) 1 1) (W2 := V9.alloc (.cells #[.int .u8 49, .slice a8 n8 c8, .slice b8 m8 d8] 45)) rfl (by rfl) (by go_simp; first | done | rfl) ?_
  refine ⟨hS9.alloc hS9.size _, ?_⟩
  try simp only [Act.put, List.getElem_toArray, List.getElem_cons_succ, List.getElem_cons_zero, List.setIfInBounds_toArray, List.set_cons_zero, List.set_cons_succ]
  have HL9 := Lib.hid (lit_b (T := namK b) (n := 1) (cons_b 49 rfl HN8.out HM8.out HD8.out nil_b) rfl (by decide) HSV9)
  replace HD2 := Lib.hid (HD2.out.below (Gr.alloc V9 (.cells #[.int .u8 49, .slice a8 n8 c8, .slice b8 m8 d8] 45)))
  replace HT3 := Lib.hid (HT3.out.below (Gr.alloc V9 (.cells #[.int .u8 49, .slice a8 n8 c8, .slice b8 m8 d8] 45)))
  replace HD4 := Lib.hid (HD4.out.below (Gr.alloc V9 (.cells #[.int .u8 49, .slice a8 n8 c8, .slice b8 m8 d8] 45)))
  replace HL5 := Lib.hid (HL5.out.below (Gr.alloc V9 (.cells #[.int .u8 49, .slice a8 n8 c8, .slice b8 m8 d8] 45)))
  replace HD6 := Lib.hid (HD6.out.below (Gr.alloc V9 (.cells #[.int .u8 49, .slice a8 n8 c8, .slice b8 m8 d8] 45)))
  replace HL7 := Lib.hid (HL7.out.below (Gr.alloc V9 (.cells #[.int .u8 49, .slice a8 n8 c8, .slice b8 m8 d8] 45)))
  replace HD8 := Lib.hid (HD8.out.below (Gr.alloc V9 (.cells #[.int .u8 49, .slice a8 n8 c8, .slice b8 m8 d8] 45)))
  refine wpAnyL_one (i := 9) (by kernel_rfl) (by decide) fun V10 hv10 hS10 => ?_
  have HSV10 : w.heap.size + 1 ≤ V10.heap.size := by { have h1 := hS10.size; have h2 := HS0.out; omega }
  replace HD2 := Lib.hid (HD2.out.below hv10)
  replace HT3 := Lib.hid (HT3.out.below hv10)
  replace HD4 := Lib.hid (HD4.out.below hv10)
  replace HL5 := Lib.hid (HL5.out.below hv10)
  replace HD6 := Lib.hid (HD6.out.below hv10)
  replace HL7 := Lib.hid (HL7.out.below hv10)
  replace HD8 := Lib.hid (HD8.out.below hv10)
  replace HL9 := Lib.hid (HL9.out.below hv10)
  refine wpOp_callE (i := 9) rfl (by rfl) rfl Tryz.func24 (by kernel_rfl) (by kernel_rfl) #[.int .u8 48, .slice (some ⟨V9.heap.size, 0, none⟩) 1 1] (by simp [Act.eval]) ((rseq_b 48 48 rfl (by decide) V10 _ 1 1 (namK b) rfl HSV10 HL9.out).mono ?_)
  rintro e w10 ⟨a10, n10, c10, b10, m10, d10, hn10, hm10, rfl, hd10, hb10⟩
  have HN10 := Lib.hid hn10; have HM10 := Lib.hid hm10; clear hn10 hm10
  replace HD2 := Lib.hid (HD2.out.below hb10)
  replace HT3 := Lib.hid (HT3.out.below hb10)
  replace HD4 := Lib.hid (HD4.out.below hb10)
  replace HL5 := Lib.hid (HL5.out.below hb10)
  replace HD6 := Lib.hid (HD6.out.below hb10)
  replace HL7 := Lib.hid (HL7.out.below hb10)
  replace HD8 := Lib.hid (HD8.out.below hb10)
  replace HL9 := Lib.hid (HL9.out.below hb10)
  have HD10 := Lib.hid hd10; clear hd10
  refine ⟨_, rfl, Gr.trans hS10 hb10, ?_⟩
  try simp only [Act.put, List.getElem_toArray, List.getElem_cons_succ, List.getElem_cons_zero, List.setIfInBounds_toArray, List.set_cons_zero, List.set_cons_succ]
  refine wpAnyL_oneF (i := 10) (by kernel_rfl) (by decide) (by kernel_rfl) (by decide) fun V11 hv11 => ?_
  have hB := Below.trans hS10 (Below.mono (hb10.trans (Below.mono hv11 hb10.size)) hS10.size)
  replace HD10 := Lib.hid (HD10.out.below hv11)
  refine (StoresG.mk (g := w.heap.size) (t := 45) (cs := [.int .u8 48, .slice a10 n10 c10, .slice b10 m10 d10]) (by rfl) _ _ _ rfl rfl rfl info25 (by intro v hv; simp at hv; rcases hv with rfl | rfl | rfl <;> rfl)).wpOp (i := 10) rfl (HRS.out.below' hB) rfl ?_
  try simp only [Act.put, List.getElem_toArray, List.getElem_cons_succ, List.getElem_cons_zero, List.setIfInBounds_toArray, List.set_cons_zero, List.set_cons_succ]
  refine wpAnyL_done (by kernel_rfl) ?_ _
  intro W9 hg9
  have hrow := below_setRow' (H00.out.trans (hB.mono H00.out.size)) (Nat.le_refl _) #[.int .u8 48, .slice a10 n10 c10, .slice b10 m10 d10]
  have HB10 := Lib.hid (hrow.trans (Below.mono hg9 hrow.size))
  have HRS9 := Lib.hid (((HRS.out.below' hB).setRow [.int .u8 48, .slice a10 n10 c10, .slice b10 m10 d10]).below' hg9)
  have HD9 := Lib.hid (((HD10.out.row (w.heap.size) #[.int .u8 48, .slice a10 n10 c10, .slice b10 m10 d10] (fun h => by have h9 : w.heap.size + 1 ≤ w.heap.size := h; omega))).below hg9)
  go_wp2_with fail
  refine bodyPost_ret (results_one Tryz.results46 _ _ (w.heap.size) 45 _ (0, 0) _ rfl HRS9.out Tryz.underlying45 rfl info25) rfl ?_
  exact ⟨a10, n10, c10, b10, m10, d10, HN10.out, HM10.out, rfl, HD9.out.mono (fun j hj _ => .inr (by have h9 : w.heap.size + 1 ≤ j := hj; omega)), HB10.out⟩
end Go.Proofs.YtbabpmncdphnjaaGreat
