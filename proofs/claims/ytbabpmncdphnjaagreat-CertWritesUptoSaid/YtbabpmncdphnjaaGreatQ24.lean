/- Parts of proofs of statements, each text behind those that it stands on. No condition of its own. -/
import Derived.Test.YtbabpmncdphnjaaGreatQ21
namespace Go.Proofs.YtbabpmncdphnjaaGreat
open Go.RowKit
set_option linter.unusedVariables false
set_option maxRecDepth 100000
set_option linter.unusedSimpArgs false
theorem Its.app {w : World} : ∀ {A B : Tr} {xs ys : List Value}, Its w A xs → Its w B ys → Its w (A.app B) (xs ++ ys)
  | .nil, B, xs, ys, h, k => by
    have h' : xs = [] := h
    subst h'
    exact k
  | .node t b k r, B, xs, ys, ⟨a, c, a', c', xr, e, hi, hr⟩, hk => ⟨a, c, a', c', xr ++ ys, by rw [e]; rfl, hi, Its.app hr hk⟩
theorem dep_bin {w w2 : World} {a : Option Addr} {n c : Nat} {l : List Nat} (h : BIn w a n c l) (hb : Below w.heap.size w w2) : Dep (fun j => j < w.heap.size) w2 (fun x => BIn x a n c l) := by
  intro w'' hw
  have hs := hb.size
  have hsz : w.heap.size ≤ w''.heap.size := by
    rcases Nat.lt_or_ge w''.heap.size w.heap.size with h1 | h1
    · exfalso
      have := hw (w''.heap.size) h1 (by omega)
      rw [Array.getElem?_eq_none (Nat.le_refl _), Array.getElem?_eq_getElem (by omega)] at this
      cases this
    · exact h1
  have hbb : Below w.heap.size w { w with heap := w''.heap } := ⟨rfl, rfl, rfl, hsz, fun k hk => (hw k hk (by omega)).trans (hb.block k hk)⟩
  have hfin : BIn { w with heap := w''.heap } a n c l := h.below hbb
  exact hfin
def extT : List XV → Tr
  | [] => .nil
  | x :: r => .node 48 [] (extK x.1.toNat x.2.1 x.2.2) (extT r)
theorem extT_len : ∀ xs : List XV, (extT xs).len = xs.length
  | [] => rfl
  | x :: r => by simp [extT, Tr.len, extT_len r]
theorem extT_app : ∀ (xs ys : List XV), extT (xs ++ ys) = (extT xs).app (extT ys)
  | [], ys => rfl
  | x :: r, ys => by simp [extT, Tr.app, extT_app r ys]
theorem extT_snoc {xs : List XV} {j : Nat} {y : XV} (h : xs[j]? = some y) : extT (xs.take (j + 1)) = (extT (xs.take j)).app (.node 48 [] (extK y.1.toNat y.2.1 y.2.2) .nil) := by
  have : xs.take (j + 1) = xs.take j ++ [y] := by rw [List.take_add_one, h]; rfl
  rw [this, extT_app]; rfl
def GrowX (w0s base : Nat) (wr : World) (v : Value) (A : Tr) (vs : List Value) : Prop :=
  wr.ownsRow base 45 3 v A.len vs ∧ Dep (fun j => (j < w0s ∨ base ≤ j) ∧ j ∉ ob v) wr (fun x => Its x A vs)
theorem GrowX.below {w0s base : Nat} {w w' : World} {v : Value} {A : Tr} {vs : List Value} (h : GrowX w0s base w v A vs) (hb : Gr w w') : GrowX w0s base w' v A vs := ⟨own_below h.1 hb, h.2.below hb⟩
theorem GrowX.push {w0s base H : Nat} {wr w3 w4 w5 : World} {v : Value} {A : Tr} {vs : List Value} (h : GrowX w0s base wr v A vs) (hb : w0s ≤ base) (hg3 : Gr wr w3) (hg4 : Gr w3 w4) {t : Nat} {b : List Nat} {k : Tr} {q : Nat} {a a' : Option Addr} {n m c c' : Nat} (hn : b.length = n) (hm : k.len = m) (hq : wr.heap.size ≤ q)
    (hbr : base ≤ wr.heap.size)
    (hi : Dep (fun j => j < w0s ∨ q ≤ j) w3 (fun x => ItIn x t a c a' c' b k)) (hg : w4.grownBy w5 v.ownBlock) {g cap : Nat} (hH : w3.heap.size ≤ H) (hat : v.ownBlock = some g ∨ g = H)
    (ho : w5.ownsRow base 45 3 (.slice (some ⟨g, 0, none⟩) (A.len + 1) cap) (A.len + 1) (vs ++ [.int .u8 (t : Nat), .slice a n c, .slice a' m c'])) :
    GrowX w0s base w5 (.slice (some ⟨g, 0, none⟩) (A.len + 1) cap) (A.app (.node t b k .nil)) (vs ++ [.int .u8 (t : Nat), .slice a n c, .slice a' m c']) := by
  have hlen : (A.app (.node t b k .nil)).len = A.len + 1 := by rw [Tr.len_app]; rfl
  refine ⟨by rw [hlen]; exact ho, ?_⟩
  have hvl := own_ob_lt h.1
  have s1 := hg3.size
  have s2 := hg4.size
  have h1 : Dep (fun j => ((j < w0s ∨ base ≤ j) ∧ j ∉ ob v) ∧ j < wr.heap.size) w5 (fun x => Its x A vs) :=
    h.2.self.keep (by have := hg.size; omega) (fun j hj hl => (hg.block j (by omega) (fun e => hj.1.2 (by simp [ob, ← e]))).trans ((hg4.block j (by omega)).trans (hg3.block j hl))) (fun _ h _ => h)
  have h2 : Dep (fun j => (j < w0s ∨ q ≤ j) ∧ j < w3.heap.size) w5 (fun x => ItIn x t a c a' c' b k) :=
    hi.self.keep (by have := hg.size; omega) (fun j hj hl => (hg.block j (by omega) (fun e => by have h5 := hvl j (by simp [ob, ← e]); rcases hj.1 with h6 | h6 <;> omega)).trans (hg4.block j hl)) (fun _ h _ => h)
  have h3 := dep_cons hn hm h2 (dep_its0 (D := NoD))
  refine ((h1.and h3).map (fun x hx => hx.1.app hx.2)).mono (fun j hj _ => ?_)
  have hgn : ∀ x, x ∈ ob (.slice (some ⟨g, 0, none⟩) (A.len + 1) cap) → x = g := fun x hx => by simpa [ob, Value.ownBlock] using hx
  rcases hj with hj | hj | hj
  · refine ⟨hj.1.1, fun hx => ?_⟩
    have := hgn j hx
    subst this
    rcases hat with h5 | h5
    · exact hj.1.2 (by simp [ob, h5])
    · omega
  · refine ⟨by rcases hj.1 with h6 | h6; exact .inl h6; exact .inr (by omega), fun hx => ?_⟩
    have := hgn j hx
    subst this
    rcases hat with h5 | h5
    · have h7 := hvl j (by simp [ob, h5])
      rcases hj.1 with h6 | h6 <;> omega
    · omega
  · exact hj.elim
theorem GrowX.kin {w0s base : Nat} {w : World} {g n cap : Nat} {A : Tr} {vs : List Value} (h : GrowX w0s base w (.slice (some ⟨g, 0, none⟩) n cap) A vs) (hn : A.len = n) (hl : n ≤ 1000) : Dep (fun j => j < w0s ∨ base ≤ j) w (fun x => KIn x (some ⟨g, 0, none⟩) cap A) :=
  (own_kin (D := fun j => j < w0s ∨ base ≤ j) (by have := h.1; rwa [hn] at this) hn hl (h.2.mono (fun j hj _ => hj.1))).mono (fun j hj _ => by rcases hj with h | h; exact h; exact .inr h)
theorem lit_o {B0 base : Nat} {w : World} {T : Tr} {xs : List Value} {n : Nat} (h : Dep (FO B0 base) w (fun x => Its x T xs)) (hn : T.len = n) (hl : n ≤ 1000) (hb : base ≤ w.heap.size) : Dep (FO B0 base) (w.alloc (.cells xs.toArray 45)) (fun x => KIn x (some ⟨w.heap.size, 0, none⟩) n T) :=
  (dep_lit h hn hl (Nat.le_refl _) (by simp) (fun j _ hj => Below.heap_alloc w _ j hj) (Blk.new w 45 xs)).mono (fun j hj _ => by rcases hj with hj | rfl; exact hj.1; exact .inr hb)
theorem one_o {B0 base : Nat} {w : World} {t : Nat} (ti : Int) (hti : (t : Int) = ti) {b : List Nat} {k : Tr} {a a' : Option Addr} {n m c c' : Nat} (hn : b.length = n) (hm : k.len = m) (h : Dep (FO B0 base) w (fun x => ItIn x t a c a' c' b k)) :
    Dep (FO B0 base) w (fun x => Its x (.node t b k .nil) [.int .u8 ti, .slice a n c, .slice a' m c']) := by
  subst hti; exact (dep_cons hn hm h (dep_its0 (D := NoD))).mono (fun j hj _ => by rcases hj with hj | hj; exact hj; exact hj.elim)
theorem grown_below9 {B : Nat} {wr w4 w5 : World} {v : Value} (hB : B ≤ wr.heap.size) (hv : ∀ g ∈ ob v, B ≤ g ∧ g < wr.heap.size) (h4 : Gr wr w4) (hg : w4.grownBy w5 v.ownBlock) : Below B wr w5 :=
  (Below.mono h4 hB).trans ⟨hg.os, hg.tape, hg.output, hg.size, fun k hk => hg.block k (by have := h4.size; omega) (fun e => by have := (hv k (by simp [ob, ← e])).1; omega)⟩
def exT (xs : List XV) : Tr := if xs = [] then .nil else .node 163 [] (.node 48 [] (extT xs) .nil) .nil
set_option maxRecDepth 100000 in
set_option maxHeartbeats 16000000 in
theorem ofSigned_x (w0 w : World) (h0 : Below w0.heap.size w0 w) (sn : Nat) (hsn : sn < 18446744073709551616) (is su : ByteArray) (ib sb : List Nat) (hib : strL is = ib) (hsb : strL su = sb) (his : is.size ≤ 140737488355328) (hsu : su.size ≤ 140737488355328)
    (ka : Option Addr) (kn kc : Nat) (kb : List Nat) (hk : BIn w ka kn kc kb) (hkn : kn ≤ 140737488351232) (xa : Option Addr) (n xc : Nat) (xs : List XV) (hx : XIn w0 xa n xc xs) (hn0 : 0 < n) (hn16 : n ≤ 16) (hc2 : C2 xs) (sa : Option Addr) (sl sc : Nat) :
    Calls Tryz.prog 40 #[.agg #[.int .u64 (sn : Nat), .string is, .string su, .slice ka kn kc, .slice xa n xc, .slice sa sl sc]] w (ItR (fun j => j < w0.heap.size) 48 [] (tbsK sn ib sb kb (exT xs)) w) := by
  have h00 := ((Below.refl _ w).alloc (Nat.le_refl _) (.cells #[.int .u64 (sn : Nat), .string is, .string su, .slice ka kn kc, .slice xa n xc, .slice sa sl sc] 26)).alloc (by simp) (.cells #[.int .u8 0, .slice none 0 0, .slice none 0 0] 45)
  have HBX := Lib.hid ((Blk.new w 26 [.int .u64 (sn : Nat), .string is, .string su, .slice ka kn kc, .slice xa n xc, .slice sa sl sc]).alloc (.cells #[.int .u8 0, .slice none 0 0, .slice none 0 0] 45))
  have HRS := Lib.hid (Blk.new2 w (.cells #[.int .u64 (sn : Nat), .string is, .string su, .slice ka kn kc, .slice xa n xc, .slice sa sl sc] 26) 45 [.int .u8 0, .slice none 0 0, .slice none 0 0])
  have HS0 := Lib.hid (show w.heap.size + 2 ≤ ((w.alloc (.cells #[.int .u64 (sn : Nat), .string is, .string su, .slice ka kn kc, .slice xa n xc, .slice sa sl sc] 26)).alloc (.cells #[.int .u8 0, .slice none 0 0, .slice none 0 0] 45)).heap.size by simp)
  have H00 := Lib.hid h00
  have HK := Lib.hid (hk.below h00)
  have HKN := Lib.hid hkn
  have HI := Lib.hid hib
  have HSB := Lib.hid hsb
  have HIS := Lib.hid his
  have HSU := Lib.hid hsu
  have HSN := Lib.hid hsn
  have HX := Lib.hid hx
  have H0B := Lib.hid h0
  have HW0 := Lib.hid (show w0.heap.size ≤ w.heap.size from h0.size)
  have HL := Lib.hid hx.1
  have H2C := Lib.hid hc2
  have hni : (0 : Int) < (n : Int) := by omega
  have hnm : n ≤ 140737488355328 := by omega
  have HXS := Lib.hid (show exT xs = .node 163 [] (.node 48 [] (extT xs) .nil) .nil from by unfold exT; rw [if_neg (by intro h; rw [h] at hx; have := hx.1; simp at this; omega)])
  clear h00 hk hkn hib hsb his hsu hsn hx hc2 h0
  go_enter Tryz.func40, Tryz.ntmps40
  go_wp2_with fail
  generalize (w.alloc (.cells #[.int .u64 (sn : Nat), .string is, .string su, .slice ka kn kc, .slice xa n xc, .slice sa sl sc] 26)).alloc (.cells #[.int .u8 0, .slice none 0 0, .slice none 0 0] 45) = W0 at *
  have k0 := blkc HBX.out (i := 0) rfl
  have k1 := blkc HBX.out (i := 1) rfl
  have k2 := blkc HBX.out (i := 2) rfl
  have k3 := blkc HBX.out (i := 3) rfl
  refine wp_region_L (fun w_ => Below W0.heap.size W0 w_) [] [1, 5, 9, 13, 19] (by kernel_rfl) (Below.refl _ _).drew ?_
  refine wpAnyL_pure (fun _ _ hS_ hb_ => gr_bel hS_ hb_) (i := 1) rfl (by kernel_rfl) (fun _ _ _ h => h) (pureG (by rfl) (by intro w_; go_simp; first | done | with_reducible rfl)) ?_
  try simp only [Act.put, List.getElem_toArray, List.getElem_cons_succ, List.getElem_cons_zero, List.setIfInBounds_toArray, List.set_cons_zero, List.set_cons_succ]
  refine wpAnyL_pure (fun _ _ hS_ hb_ => gr_bel hS_ hb_) (i := 5) rfl (by kernel_rfl) (fun _ _ _ h => h) (pureG (by rfl) (by intro w_; go_simp; first | done | with_reducible rfl)) ?_
  try simp only [Act.put, List.getElem_toArray, List.getElem_cons_succ, List.getElem_cons_zero, List.setIfInBounds_toArray, List.set_cons_zero, List.set_cons_succ]
  refine wpAnyL_pure (fun _ _ hS_ hb_ => gr_bel hS_ hb_) (i := 9) rfl (by kernel_rfl) (fun _ _ _ h => h) (pureG (by rfl) (by intro w_; go_simp; first | done | with_reducible rfl)) ?_
  try simp only [Act.put, List.getElem_toArray, List.getElem_cons_succ, List.getElem_cons_zero, List.setIfInBounds_toArray, List.set_cons_zero, List.set_cons_succ]
  refine wpAnyL_pure (fun _ _ hS_ hb_ => gr_bel hS_ hb_) (i := 13) rfl (by kernel_rfl) (fun _ _ _ h => h) (pureG (by rfl) (by intro w_; go_simp; first | done | with_reducible rfl)) ?_
  try simp only [Act.put, List.getElem_toArray, List.getElem_cons_succ, List.getElem_cons_zero, List.setIfInBounds_toArray, List.set_cons_zero, List.set_cons_succ]
  refine wpAnyL_take (fun _ _ hS_ hb_ => gr_bel hS_ hb_) (i := 2) rfl (by kernel_rfl) (fun _ _ _ h => h) (worldG (by rfl) (by intro w_ hS_; have q := (hS_.cell (World.block_lt_of_cell? W0 _ k0)).trans k0; go_simp; first | done | with_reducible rfl)) ?_
  try simp only [Act.put, List.getElem_toArray, List.getElem_cons_succ, List.getElem_cons_zero, List.setIfInBounds_toArray, List.set_cons_zero, List.set_cons_succ]
  refine wpAnyL_take (fun _ _ hS_ hb_ => gr_bel hS_ hb_) (i := 6) rfl (by kernel_rfl) (fun _ _ _ h => h) (worldG (by rfl) (by intro w_ hS_; have q := (hS_.cell (World.block_lt_of_cell? W0 _ k1)).trans k1; go_simp; first | done | with_reducible rfl)) ?_
  try simp only [Act.put, List.getElem_toArray, List.getElem_cons_succ, List.getElem_cons_zero, List.setIfInBounds_toArray, List.set_cons_zero, List.set_cons_succ]
  refine wpAnyL_take (fun _ _ hS_ hb_ => gr_bel hS_ hb_) (i := 10) rfl (by kernel_rfl) (fun _ _ _ h => h) (worldG (by rfl) (by intro w_ hS_; have q := (hS_.cell (World.block_lt_of_cell? W0 _ k2)).trans k2; go_simp; first | done | with_reducible rfl)) ?_
  try simp only [Act.put, List.getElem_toArray, List.getElem_cons_succ, List.getElem_cons_zero, List.setIfInBounds_toArray, List.set_cons_zero, List.set_cons_succ]
  refine wpAnyL_take (fun _ _ hS_ hb_ => gr_bel hS_ hb_) (i := 14) rfl (by kernel_rfl) (fun _ _ _ h => h) (worldG (by rfl) (by intro w_ hS_; have q := (hS_.cell (World.block_lt_of_cell? W0 _ k3)).trans k3; go_simp; first | done | with_reducible rfl)) ?_
  try simp only [Act.put, List.getElem_toArray, List.getElem_cons_succ, List.getElem_cons_zero, List.setIfInBounds_toArray, List.set_cons_zero, List.set_cons_succ]
  refine wpAnyL_one (i := 0) (by kernel_rfl) (by decide) fun V1 hv1 hS1 => ?_
  have HSV1 : w.heap.size + 2 ≤ V1.heap.size := by { have h1 := hS1.size; have h2 := HS0.out; omega }
  replace HK := Lib.hid (HK.out.below hS1)
  refine wpOp_callE (i := 0) rfl (by rfl) rfl Tryz.func64 (by kernel_rfl) (by kernel_rfl) #[] (by simp [Act.eval]) ((itB (base := w.heap.size + 2) (ofVersion_d V1) HSV1 (fun _ h => h.elim)).mono ?_)
  rintro e w1 ⟨a1, n1, c1, b1, m1, d1, hn1, hm1, rfl, hd1, hb1⟩
  have HN1 := Lib.hid hn1; have HM1 := Lib.hid hm1; clear hn1 hm1
  replace HK := Lib.hid (HK.out.below hb1)
  have HD1 := Lib.hid hd1; clear hd1
  refine ⟨_, rfl, Gr.trans hS1 hb1, ?_⟩
  try simp only [Act.put, List.getElem_toArray, List.getElem_cons_succ, List.getElem_cons_zero, List.setIfInBounds_toArray, List.set_cons_zero, List.set_cons_succ]
  refine wpAnyL_one (i := 3) (by kernel_rfl) (by decide) fun V2 hv2 hS2 => ?_
  have HSV2 : w.heap.size + 2 ≤ V2.heap.size := by { have h1 := hS2.size; have h2 := HS0.out; omega }
  replace HK := Lib.hid (HK.out.below hv2)
  replace HD1 := Lib.hid (HD1.out.below hv2)
  refine wpOp_callE (i := 3) rfl (by rfl) rfl Tryz.func78 (by kernel_rfl) (by kernel_rfl) #[.int .u64 (sn : Nat)] (by simp [Act.eval]) ((itB (base := w.heap.size + 2) (OfUint_d V2 sn HSN.out) HSV2 (fun _ h => h.elim)).mono ?_)
  rintro e w2 ⟨a2, n2, c2, b2, m2, d2, hn2, hm2, rfl, hd2, hb2⟩
  have HN2 := Lib.hid hn2; have HM2 := Lib.hid hm2; clear hn2 hm2
  replace HK := Lib.hid (HK.out.below hb2)
  replace HD1 := Lib.hid (HD1.out.below hb2)
  have HD2 := Lib.hid hd2; clear hd2
  refine ⟨_, rfl, Gr.trans hS2 hb2, ?_⟩
  try simp only [Act.put, List.getElem_toArray, List.getElem_cons_succ, List.getElem_cons_zero, List.setIfInBounds_toArray, List.set_cons_zero, List.set_cons_succ]
  refine wpAnyL_one (i := 4) (by kernel_rfl) (by decide) fun V3 hv3 hS3 => ?_
  have HSV3 : w.heap.size + 2 ≤ V3.heap.size := by { have h1 := hS3.size; have h2 := HS0.out; omega }
  replace HK := Lib.hid (HK.out.below hv3)
  replace HD1 := Lib.hid (HD1.out.below hv3)
  replace HD2 := Lib.hid (HD2.out.below hv3)
  refine wpOp_callE (i := 4) rfl (by rfl) rfl Tryz.func63 (by kernel_rfl) (by kernel_rfl) #[] (by simp [Act.eval]) ((itB (base := w.heap.size + 2) (ofAlgorithm_d V3) HSV3 (fun _ h => h.elim)).mono ?_)
  rintro e w3 ⟨a3, n3, c3, b3, m3, d3, hn3, hm3, rfl, hd3, hb3⟩
  have HN3 := Lib.hid hn3; have HM3 := Lib.hid hm3; clear hn3 hm3
  replace HK := Lib.hid (HK.out.below hb3)
  replace HD1 := Lib.hid (HD1.out.below hb3)
  replace HD2 := Lib.hid (HD2.out.below hb3)
  have HD3 := Lib.hid hd3; clear hd3
  refine ⟨_, rfl, Gr.trans hS3 hb3, ?_⟩
  try simp only [Act.put, List.getElem_toArray, List.getElem_cons_succ, List.getElem_cons_zero, List.setIfInBounds_toArray, List.set_cons_zero, List.set_cons_succ]
  refine wpAnyL_one (i := 7) (by kernel_rfl) (by decide) fun V4 hv4 hS4 => ?_
  have HSV4 : w.heap.size + 2 ≤ V4.heap.size := by { have h1 := hS4.size; have h2 := HS0.out; omega }
  replace HK := Lib.hid (HK.out.below hv4)
  replace HD1 := Lib.hid (HD1.out.below hv4)
  replace HD2 := Lib.hid (HD2.out.below hv4)
  replace HD3 := Lib.hid (HD3.out.below hv4)
  refine wpOp_callE (i := 7) rfl (by rfl) rfl Tryz.func79 (by kernel_rfl) (by kernel_rfl) #[.string is] (by simp [Act.eval]) ((itB (base := w.heap.size + 2) (ofName_d V4 is ib HI.out HIS.out) HSV4 (fun _ h => h.elim)).mono ?_)
  rintro e w4 ⟨a4, n4, c4, b4, m4, d4, hn4, hm4, rfl, hd4, hb4⟩
  have HN4 := Lib.hid hn4; have HM4 := Lib.hid hm4; clear hn4 hm4
  replace HK := Lib.hid (HK.out.below hb4)
  replace HD1 := Lib.hid (HD1.out.below hb4)
  replace HD2 := Lib.hid (HD2.out.below hb4)
  replace HD3 := Lib.hid (HD3.out.below hb4)
  have HD4 := Lib.hid hd4; clear hd4
  refine ⟨_, rfl, Gr.trans hS4 hb4, ?_⟩
  try simp only [Act.put, List.getElem_toArray, List.getElem_cons_succ, List.getElem_cons_zero, List.setIfInBounds_toArray, List.set_cons_zero, List.set_cons_succ]
  refine wpAnyL_one (i := 8) (by kernel_rfl) (by decide) fun V5 hv5 hS5 => ?_
  have HSV5 : w.heap.size + 2 ≤ V5.heap.size := by { have h1 := hS5.size; have h2 := HS0.out; omega }
  replace HK := Lib.hid (HK.out.below hv5)
  replace HD1 := Lib.hid (HD1.out.below hv5)
  replace HD2 := Lib.hid (HD2.out.below hv5)
  replace HD3 := Lib.hid (HD3.out.below hv5)
  replace HD4 := Lib.hid (HD4.out.below hv5)
  refine wpOp_callE (i := 8) rfl (by rfl) rfl Tryz.func65 (by kernel_rfl) (by kernel_rfl) #[] (by simp [Act.eval]) ((itB (base := w.heap.size + 2) (ofTimes_d V5) HSV5 (fun _ h => h.elim)).mono ?_)
  rintro e w5 ⟨a5, n5, c5, b5, m5, d5, hn5, hm5, rfl, hd5, hb5⟩
  have HN5 := Lib.hid hn5; have HM5 := Lib.hid hm5; clear hn5 hm5
  replace HK := Lib.hid (HK.out.below hb5)
  replace HD1 := Lib.hid (HD1.out.below hb5)
  replace HD2 := Lib.hid (HD2.out.below hb5)
  replace HD3 := Lib.hid (HD3.out.below hb5)
  replace HD4 := Lib.hid (HD4.out.below hb5)
  have HD5 := Lib.hid hd5; clear hd5
  refine ⟨_, rfl, Gr.trans hS5 hb5, ?_⟩
  try simp only [Act.put, List.getElem_toArray, List.getElem_cons_succ, List.getElem_cons_zero, List.setIfInBounds_toArray, List.set_cons_zero, List.set_cons_succ]
  refine wpAnyL_one (i := 11) (by kernel_rfl) (by decide) fun V6 hv6 hS6 => ?_
  have HSV6 : w.heap.size + 2 ≤ V6.heap.size := by { have h1 := hS6.size; have h2 := HS0.out; omega }
  replace HK := Lib.hid (HK.out.below hv6)
  replace HD1 := Lib.hid (HD1.out.below hv6)
  replace HD2 := Lib.hid (HD2.out.below hv6)
  replace HD3 := Lib.hid (HD3.out.below hv6)
  replace HD4 := Lib.hid (HD4.out.below hv6)
  replace HD5 := Lib.hid (HD5.out.below hv6)
  refine wpOp_callE (i := 11) rfl (by rfl) rfl Tryz.func79 (by kernel_rfl) (by kernel_rfl) #[.string su] (by simp [Act.eval]) ((itB (base := w.heap.size + 2) (ofName_d V6 su sb HSB.out HSU.out) HSV6 (fun _ h => h.elim)).mono ?_)
  rintro e w6 ⟨a6, n6, c6, b6, m6, d6, hn6, hm6, rfl, hd6, hb6⟩
  have HN6 := Lib.hid hn6; have HM6 := Lib.hid hm6; clear hn6 hm6
  replace HK := Lib.hid (HK.out.below hb6)
  replace HD1 := Lib.hid (HD1.out.below hb6)
  replace HD2 := Lib.hid (HD2.out.below hb6)
  replace HD3 := Lib.hid (HD3.out.below hb6)
  replace HD4 := Lib.hid (HD4.out.below hb6)
  replace HD5 := Lib.hid (HD5.out.below hb6)
  have HD6 := Lib.hid hd6; clear hd6
  refine ⟨_, rfl, Gr.trans hS6 hb6, ?_⟩
  try simp only [Act.put, List.getElem_toArray, List.getElem_cons_succ, List.getElem_cons_zero, List.setIfInBounds_toArray, List.set_cons_zero, List.set_cons_succ]
  refine wpAnyL_one (i := 12) (by kernel_rfl) (by decide) fun V7 hv7 hS7 => ?_
  have HSV7 : w.heap.size + 2 ≤ V7.heap.size := by { have h1 := hS7.size; have h2 := HS0.out; omega }
  replace HK := Lib.hid (HK.out.below hv7)
  replace HD1 := Lib.hid (HD1.out.below hv7)
  replace HD2 := Lib.hid (HD2.out.below hv7)
  replace HD3 := Lib.hid (HD3.out.below hv7)
  replace HD4 := Lib.hid (HD4.out.below hv7)
  replace HD5 := Lib.hid (HD5.out.below hv7)
  replace HD6 := Lib.hid (HD6.out.below hv7)
  refine wpOp_callE (i := 12) rfl (by rfl) rfl Tryz.func63 (by kernel_rfl) (by kernel_rfl) #[] (by simp [Act.eval]) ((itB (base := w.heap.size + 2) (ofAlgorithm_d V7) HSV7 (fun _ h => h.elim)).mono ?_)
  rintro e w7 ⟨a7, n7, c7, b7, m7, d7, hn7, hm7, rfl, hd7, hb7⟩
  have HN7 := Lib.hid hn7; have HM7 := Lib.hid hm7; clear hn7 hm7
  replace HK := Lib.hid (HK.out.below hb7)
  replace HD1 := Lib.hid (HD1.out.below hb7)
  replace HD2 := Lib.hid (HD2.out.below hb7)
  replace HD3 := Lib.hid (HD3.out.below hb7)
  replace HD4 := Lib.hid (HD4.out.below hb7)
  replace HD5 := Lib.hid (HD5.out.below hb7)
  replace HD6 := Lib.hid (HD6.out.below hb7)
  have HD7 := Lib.hid hd7; clear hd7
  refine ⟨_, rfl, Gr.trans hS7 hb7, ?_⟩
  try simp only [Act.put, List.getElem_toArray, List.getElem_cons_succ, List.getElem_cons_zero, List.setIfInBounds_toArray, List.set_cons_zero, List.set_cons_succ]
  refine wpAnyL_one (i := 15) (by kernel_rfl) (by decide) fun V8 hv8 hS8 => ?_
  have HSV8 : w.heap.size + 2 ≤ V8.heap.size := by { have h1 := hS8.size; have h2 := HS0.out; omega }
  replace HK := Lib.hid (HK.out.below hv8)
  replace HD1 := Lib.hid (HD1.out.below hv8)
  replace HD2 := Lib.hid (HD2.out.below hv8)
  replace HD3 := Lib.hid (HD3.out.below hv8)
  replace HD4 := Lib.hid (HD4.out.below hv8)
  replace HD5 := Lib.hid (HD5.out.below hv8)
  replace HD6 := Lib.hid (HD6.out.below hv8)
  replace HD7 := Lib.hid (HD7.out.below hv8)
  refine wpOp_callE (i := 15) rfl (by rfl) rfl Tryz.func81 (by kernel_rfl) (by kernel_rfl) #[.slice ka kn kc] (by simp [Act.eval]) ((itB (base := w.heap.size + 2) (OfBits_d V8 kb ka kn kc HK.out HKN.out) HSV8 (fun _ h => h.elim)).mono ?_)
  rintro e w8 ⟨a8, n8, c8, b8, m8, d8, hn8, hm8, rfl, hd8, hb8⟩
  have HN8 := Lib.hid hn8; have HM8 := Lib.hid hm8; clear hn8 hm8
  replace HK := Lib.hid (HK.out.below hb8)
  replace HD1 := Lib.hid (HD1.out.below hb8)
  replace HD2 := Lib.hid (HD2.out.below hb8)
  replace HD3 := Lib.hid (HD3.out.below hb8)
  replace HD4 := Lib.hid (HD4.out.below hb8)
  replace HD5 := Lib.hid (HD5.out.below hb8)
  replace HD6 := Lib.hid (HD6.out.below hb8)
  replace HD7 := Lib.hid (HD7.out.below hb8)
  have HD8 := Lib.hid hd8; clear hd8
  refine ⟨_, rfl, Gr.trans hS8 hb8, ?_⟩
  try simp only [Act.put, List.getElem_toArray, List.getElem_cons_succ, List.getElem_cons_zero, List.setIfInBounds_toArray, List.set_cons_zero, List.set_cons_succ]
  refine wpAnyL_one (i := 16) (by kernel_rfl) (by decide) fun V9 hv9 hS9 => ?_
  have HSV9 : w.heap.size + 2 ≤ V9.heap.size := by { have h1 := hS9.size; have h2 := HS0.out; omega }
  replace HK := Lib.hid (HK.out.below hv9)
  replace HD1 := Lib.hid (HD1.out.below hv9)
  replace HD2 := Lib.hid (HD2.out.below hv9)
  replace HD3 := Lib.hid (HD3.out.below hv9)
  replace HD4 := Lib.hid (HD4.out.below hv9)
  replace HD5 := Lib.hid (HD5.out.below hv9)
  replace HD6 := Lib.hid (HD6.out.below hv9)
  replace HD7 := Lib.hid (HD7.out.below hv9)
  replace HD8 := Lib.hid (HD8.out.below hv9)
  refine wpOp_run (i := 16) (v := .slice (some ⟨V9.heap.size, 0, none⟩) 2 2) (W2 := V9.alloc (.cells #[.int .u8 48, .slice a7 n7 c7, .slice b7 m7 d7, .int .u8 3, .slice a8 n8 c8, .slice b8 m8 d8] 45)) rfl (by rfl) (by go_simp; first | done | rfl) ?_
  refine ⟨hS9.alloc hS9.size _, ?_⟩
  try simp only [Act.put, List.getElem_toArray, List.getElem_cons_succ, List.getElem_cons_zero, List.setIfInBounds_toArray, List.set_cons_zero, List.set_cons_succ]
  have HKT := Lib.hid (lit_b (T := keyT kb) (n := 2) (cons_b 48 rfl HN7.out HM7.out HD7.out (cons_b 3 rfl HN8.out HM8.out HD8.out nil_b)) rfl (by decide) HSV9)
  replace HK := Lib.hid (HK.out.below (Gr.alloc V9 (.cells #[.int .u8 48, .slice a7 n7 c7, .slice b7 m7 d7, .int .u8 3, .slice a8 n8 c8, .slice b8 m8 d8] 45)))
  replace HD1 := Lib.hid (HD1.out.below (Gr.alloc V9 (.cells #[.int .u8 48, .slice a7 n7 c7, .slice b7 m7 d7, .int .u8 3, .slice a8 n8 c8, .slice b8 m8 d8] 45)))
  replace HD2 := Lib.hid (HD2.out.below (Gr.alloc V9 (.cells #[.int .u8 48, .slice a7 n7 c7, .slice b7 m7 d7, .int .u8 3, .slice a8 n8 c8, .slice b8 m8 d8] 45)))
  replace HD3 := Lib.hid (HD3.out.below (Gr.alloc V9 (.cells #[.int .u8 48, .slice a7 n7 c7, .slice b7 m7 d7, .int .u8 3, .slice a8 n8 c8, .slice b8 m8 d8] 45)))
  replace HD4 := Lib.hid (HD4.out.below (Gr.alloc V9 (.cells #[.int .u8 48, .slice a7 n7 c7, .slice b7 m7 d7, .int .u8 3, .slice a8 n8 c8, .slice b8 m8 d8] 45)))
  replace HD5 := Lib.hid (HD5.out.below (Gr.alloc V9 (.cells #[.int .u8 48, .slice a7 n7 c7, .slice b7 m7 d7, .int .u8 3, .slice a8 n8 c8, .slice b8 m8 d8] 45)))
  replace HD6 := Lib.hid (HD6.out.below (Gr.alloc V9 (.cells #[.int .u8 48, .slice a7 n7 c7, .slice b7 m7 d7, .int .u8 3, .slice a8 n8 c8, .slice b8 m8 d8] 45)))
  replace HD7 := Lib.hid (HD7.out.below (Gr.alloc V9 (.cells #[.int .u8 48, .slice a7 n7 c7, .slice b7 m7 d7, .int .u8 3, .slice a8 n8 c8, .slice b8 m8 d8] 45)))
  replace HD8 := Lib.hid (HD8.out.below (Gr.alloc V9 (.cells #[.int .u8 48, .slice a7 n7 c7, .slice b7 m7 d7, .int .u8 3, .slice a8 n8 c8, .slice b8 m8 d8] 45)))
  refine wpAnyL_one (i := 17) (by kernel_rfl) (by decide) fun V10 hv10 hS10 => ?_
  have HSV10 : w.heap.size + 2 ≤ V10.heap.size := by { have h1 := hS10.size; have h2 := HS0.out; omega }
  replace HK := Lib.hid (HK.out.below hv10)
  replace HD1 := Lib.hid (HD1.out.below hv10)
  replace HD2 := Lib.hid (HD2.out.below hv10)
  replace HD3 := Lib.hid (HD3.out.below hv10)
  replace HD4 := Lib.hid (HD4.out.below hv10)
  replace HD5 := Lib.hid (HD5.out.below hv10)
  replace HD6 := Lib.hid (HD6.out.below hv10)
  replace HD7 := Lib.hid (HD7.out.below hv10)
  replace HD8 := Lib.hid (HD8.out.below hv10)
  replace HKT := Lib.hid (HKT.out.below hv10)
  refine wpOp_callE (i := 17) rfl (by rfl) rfl Tryz.func80 (by kernel_rfl) (by kernel_rfl) #[.slice (some ⟨V9.heap.size, 0, none⟩) 2 2] (by simp [Act.eval]) ((seq_b V10 _ 2 2 (keyT kb) rfl HSV10 HKT.out).mono ?_)
  rintro e w10 ⟨a10, n10, c10, b10, m10, d10, hn10, hm10, rfl, hd10, hb10⟩
  have HN10 := Lib.hid hn10; have HM10 := Lib.hid hm10; clear hn10 hm10
  replace HK := Lib.hid (HK.out.below hb10)
  replace HD1 := Lib.hid (HD1.out.below hb10)
  replace HD2 := Lib.hid (HD2.out.below hb10)
  replace HD3 := Lib.hid (HD3.out.below hb10)
  replace HD4 := Lib.hid (HD4.out.below hb10)
  replace HD5 := Lib.hid (HD5.out.below hb10)
  replace HD6 := Lib.hid (HD6.out.below hb10)
  replace HD7 := Lib.hid (HD7.out.below hb10)
  replace HD8 := Lib.hid (HD8.out.below hb10)
  replace HKT := Lib.hid (HKT.out.below hb10)
  have HD10 := Lib.hid hd10; clear hd10
  refine ⟨_, rfl, Gr.trans hS10 hb10, ?_⟩
  try simp only [Act.put, List.getElem_toArray, List.getElem_cons_succ, List.getElem_cons_zero, List.setIfInBounds_toArray, List.set_cons_zero, List.set_cons_succ]
  refine wpAnyL_one (i := 18) (by kernel_rfl) (by decide) fun V11 hv11 hS11 => ?_
  have HSV11 : w.heap.size + 2 ≤ V11.heap.size := by { have h1 := hS11.size; have h2 := HS0.out; omega }
  replace HK := Lib.hid (HK.out.below hv11)
  replace HD1 := Lib.hid (HD1.out.below hv11)
  replace HD2 := Lib.hid (HD2.out.below hv11)
  replace HD3 := Lib.hid (HD3.out.below hv11)
  replace HD4 := Lib.hid (HD4.out.below hv11)
  replace HD5 := Lib.hid (HD5.out.below hv11)
  replace HD6 := Lib.hid (HD6.out.below hv11)
  replace HD7 := Lib.hid (HD7.out.below hv11)
  replace HD8 := Lib.hid (HD8.out.below hv11)
  replace HKT := Lib.hid (HKT.out.below hv11)
  replace HD10 := Lib.hid (HD10.out.below hv11)
  refine wpOp_run (i := 18) (v := .slice (some ⟨V11.heap.size, 0, none⟩) 7 7) (W2 := V11.alloc (.cells #[.int .u8 160, .slice a1 n1 c1, .slice b1 m1 d1, .int .u8 2, .slice a2 n2 c2, .slice b2 m2 d2, .int .u8 48, .slice a3 n3 c3, .slice b3 m3 d3, .int .u8 48, .slice a4 n4 c4, .slice b4 m4 d4, .int .u8 48, .slice a5 n5 c5, .slice b5 m5 d5, .int .u8 48, .slice a6 n6 c6, .slice b6 m6 d6, .int .u8 48, .slice a10 n10 c10, .slice b10 m10 d10] 45)) rfl (by rfl) (by go_simp; first | done | rfl) ?_
  refine ⟨hS11.alloc hS11.size _, ?_⟩
  try simp only [Act.put, List.getElem_toArray, List.getElem_cons_succ, List.getElem_cons_zero, List.setIfInBounds_toArray, List.set_cons_zero, List.set_cons_succ]
  have HIT7 := Lib.hid (Dep.self (X := fun x => Its x (tbsK sn ib sb kb .nil) _) (cons_b 160 rfl HN1.out HM1.out HD1.out (cons_b 2 rfl HN2.out HM2.out HD2.out (cons_b 48 rfl HN3.out HM3.out HD3.out (cons_b 48 rfl HN4.out HM4.out HD4.out (cons_b 48 rfl HN5.out HM5.out HD5.out (cons_b 48 rfl HN6.out HM6.out HD6.out (cons_b 48 rfl HN10.out HM10.out HD10.out nil_b))))))))
  have HO7 := Lib.hid (World.ownsRow_lit (base := w.heap.size + 2) (e := 45) (size := 3) V11 #[.int .u8 160, .slice a1 n1 c1, .slice b1 m1 d1, .int .u8 2, .slice a2 n2 c2, .slice b2 m2 d2, .int .u8 48, .slice a3 n3 c3, .slice b3 m3 d3, .int .u8 48, .slice a4 n4 c4, .slice b4 m4 d4, .int .u8 48, .slice a5 n5 c5, .slice b5 m5 d5, .int .u8 48, .slice a6 n6 c6, .slice b6 m6 d6, .int .u8 48, .slice a10 n10 c10, .slice b10 m10 d10] 7 HSV11 (by decide) rfl)
  replace HK := Lib.hid (HK.out.below (Gr.alloc V11 (.cells #[.int .u8 160, .slice a1 n1 c1, .slice b1 m1 d1, .int .u8 2, .slice a2 n2 c2, .slice b2 m2 d2, .int .u8 48, .slice a3 n3 c3, .slice b3 m3 d3, .int .u8 48, .slice a4 n4 c4, .slice b4 m4 d4, .int .u8 48, .slice a5 n5 c5, .slice b5 m5 d5, .int .u8 48, .slice a6 n6 c6, .slice b6 m6 d6, .int .u8 48, .slice a10 n10 c10, .slice b10 m10 d10] 45)))
  replace HD1 := Lib.hid (HD1.out.below (Gr.alloc V11 (.cells #[.int .u8 160, .slice a1 n1 c1, .slice b1 m1 d1, .int .u8 2, .slice a2 n2 c2, .slice b2 m2 d2, .int .u8 48, .slice a3 n3 c3, .slice b3 m3 d3, .int .u8 48, .slice a4 n4 c4, .slice b4 m4 d4, .int .u8 48, .slice a5 n5 c5, .slice b5 m5 d5, .int .u8 48, .slice a6 n6 c6, .slice b6 m6 d6, .int .u8 48, .slice a10 n10 c10, .slice b10 m10 d10] 45)))
  replace HD2 := Lib.hid (HD2.out.below (Gr.alloc V11 (.cells #[.int .u8 160, .slice a1 n1 c1, .slice b1 m1 d1, .int .u8 2, .slice a2 n2 c2, .slice b2 m2 d2, .int .u8 48, .slice a3 n3 c3, .slice b3 m3 d3, .int .u8 48, .slice a4 n4 c4, .slice b4 m4 d4, .int .u8 48, .slice a5 n5 c5, .slice b5 m5 d5, .int .u8 48, .slice a6 n6 c6, .slice b6 m6 d6, .int .u8 48, .slice a10 n10 c10, .slice b10 m10 d10] 45)))
  replace HD3 := Lib.hid (HD3.out.below (Gr.alloc V11 (.cells #[.int .u8 160, .slice a1 n1 c1, .slice b1 m1 d1, .int .u8 2, .slice a2 n2 c2, .slice b2 m2 d2, .int .u8 48, .slice a3 n3 c3, .slice b3 m3 d3, .int .u8 48, .slice a4 n4 c4, .slice b4 m4 d4, .int .u8 48, .slice a5 n5 c5, .slice b5 m5 d5, .int .u8 48, .slice a6 n6 c6, .slice b6 m6 d6, .int .u8 48, .slice a10 n10 c10, .slice b10 m10 d10] 45)))
  replace HD4 := Lib.hid (HD4.out.below (Gr.alloc V11 (.cells #[.int .u8 160, .slice a1 n1 c1, .slice b1 m1 d1, .int .u8 2, .slice a2 n2 c2, .slice b2 m2 d2, .int .u8 48, .slice a3 n3 c3, .slice b3 m3 d3, .int .u8 48, .slice a4 n4 c4, .slice b4 m4 d4, .int .u8 48, .slice a5 n5 c5, .slice b5 m5 d5, .int .u8 48, .slice a6 n6 c6, .slice b6 m6 d6, .int .u8 48, .slice a10 n10 c10, .slice b10 m10 d10] 45)))
  replace HD5 := Lib.hid (HD5.out.below (Gr.alloc V11 (.cells #[.int .u8 160, .slice a1 n1 c1, .slice b1 m1 d1, .int .u8 2, .slice a2 n2 c2, .slice b2 m2 d2, .int .u8 48, .slice a3 n3 c3, .slice b3 m3 d3, .int .u8 48, .slice a4 n4 c4, .slice b4 m4 d4, .int .u8 48, .slice a5 n5 c5, .slice b5 m5 d5, .int .u8 48, .slice a6 n6 c6, .slice b6 m6 d6, .int .u8 48, .slice a10 n10 c10, .slice b10 m10 d10] 45)))
  replace HD6 := Lib.hid (HD6.out.below (Gr.alloc V11 (.cells #[.int .u8 160, .slice a1 n1 c1, .slice b1 m1 d1, .int .u8 2, .slice a2 n2 c2, .slice b2 m2 d2, .int .u8 48, .slice a3 n3 c3, .slice b3 m3 d3, .int .u8 48, .slice a4 n4 c4, .slice b4 m4 d4, .int .u8 48, .slice a5 n5 c5, .slice b5 m5 d5, .int .u8 48, .slice a6 n6 c6, .slice b6 m6 d6, .int .u8 48, .slice a10 n10 c10, .slice b10 m10 d10] 45)))
  replace HD7 := Lib.hid (HD7.out.below (Gr.alloc V11 (.cells #[.int .u8 160, .slice a1 n1 c1, .slice b1 m1 d1, .int .u8 2, .slice a2 n2 c2, .slice b2 m2 d2, .int .u8 48, .slice a3 n3 c3, .slice b3 m3 d3, .int .u8 48, .slice a4 n4 c4, .slice b4 m4 d4, .int .u8 48, .slice a5 n5 c5, .slice b5 m5 d5, .int .u8 48, .slice a6 n6 c6, .slice b6 m6 d6, .int .u8 48, .slice a10 n10 c10, .slice b10 m10 d10] 45)))
  replace HD8 := Lib.hid (HD8.out.below (Gr.alloc V11 (.cells #[.int .u8 160, .slice a1 n1 c1, .slice b1 m1 d1, .int .u8 2, .slice a2 n2 c2, .slice b2 m2 d2, .int .u8 48, .slice a3 n3 c3, .slice b3 m3 d3, .int .u8 48, .slice a4 n4 c4, .slice b4 m4 d4, .int .u8 48, .slice a5 n5 c5, .slice b5 m5 d5, .int .u8 48, .slice a6 n6 c6, .slice b6 m6 d6, .int .u8 48, .slice a10 n10 c10, .slice b10 m10 d10] 45)))
  replace HKT := Lib.hid (HKT.out.below (Gr.alloc V11 (.cells #[.int .u8 160, .slice a1 n1 c1, .slice b1 m1 d1, .int .u8 2, .slice a2 n2 c2, .slice b2 m2 d2, .int .u8 48, .slice a3 n3 c3, .slice b3 m3 d3, .int .u8 48, .slice a4 n4 c4, .slice b4 m4 d4, .int .u8 48, .slice a5 n5 c5, .slice b5 m5 d5, .int .u8 48, .slice a6 n6 c6, .slice b6 m6 d6, .int .u8 48, .slice a10 n10 c10, .slice b10 m10 d10] 45)))
  replace HD10 := Lib.hid (HD10.out.below (Gr.alloc V11 (.cells #[.int .u8 160, .slice a1 n1 c1, .slice b1 m1 d1, .int .u8 2, .slice a2 n2 c2, .slice b2 m2 d2, .int .u8 48, .slice a3 n3 c3, .slice b3 m3 d3, .int .u8 48, .slice a4 n4 c4, .slice b4 m4 d4, .int .u8 48, .slice a5 n5 c5, .slice b5 m5 d5, .int .u8 48, .slice a6 n6 c6, .slice b6 m6 d6, .int .u8 48, .slice a10 n10 c10, .slice b10 m10 d10] 45)))
  have hSL := hS11.alloc hS11.size (.cells #[.int .u8 160, .slice a1 n1 c1, .slice b1 m1 d1, .int .u8 2, .slice a2 n2 c2, .slice b2 m2 d2, .int .u8 48, .slice a3 n3 c3, .slice b3 m3 d3, .int .u8 48, .slice a4 n4 c4, .slice b4 m4 d4, .int .u8 48, .slice a5 n5 c5, .slice b5 m5 d5, .int .u8 48, .slice a6 n6 c6, .slice b6 m6 d6, .int .u8 48, .slice a10 n10 c10, .slice b10 m10 d10] 45)
  refine wpAnyL_pure (fun _ _ hS_ hb_ => gr_bel hS_ hb_) (i := 19) rfl (by kernel_rfl) (fun _ _ _ h => h) (pureG (by rfl) (by intro w_; go_simp; first | done | with_reducible rfl)) ?_
  try simp only [Act.put, List.getElem_toArray, List.getElem_cons_succ, List.getElem_cons_zero, List.setIfInBounds_toArray, List.set_cons_zero, List.set_cons_succ]
  refine wpAnyL_done (by kernel_rfl) ?_ _
  intro W9 hg9
  have hB9 := Below.trans hSL (Below.mono hg9 hSL.size)
  have k4 : W9.cell? ⟨w.heap.size, 4, none⟩ = some (.slice xa n xc) := (hB9.cell (World.block_lt_of_cell? W0 _ (blkc HBX.out (i := 4) rfl))).trans (blkc HBX.out (i := 4) rfl)
  have HB9 := Lib.hid (H00.out.trans (hB9.mono H00.out.size))
  have HRS9 := Lib.hid (HRS.out.below' hB9)
  have HBX9 := Lib.hid (HBX.out.below' hB9)
  have hgv : Gr V11 W9 := (Gr.alloc V11 _).trans hg9
  have HIT := Lib.hid (HIT7.out.below hgv)
  have HOW7 := Lib.hid (own_below HO7.out hg9)
  have HV9 := Lib.hid (show V11.heap.size < W9.heap.size from by have := hg9.size; simp only [World.size_alloc] at this; omega)
  have HSV := Lib.hid HSV11
  have HS9 := Lib.hid (show w.heap.size + 2 ≤ W9.heap.size by have h1 := hB9.size; have h2 := HS0.out; omega)
  have HGX := Lib.hid (show GrowX w0.heap.size W9.heap.size W9 (.slice none 0 0) .nil [] from ⟨World.ownsRow_nil _ _ _ _, fun _ _ => rfl⟩)
  obtain ⟨i25, hi25, hz25, hs25, hy25⟩ := info_parts info25z
  clear hB9 hg9 hSL k0 k1 k2 k3 hgv
  go_wp2_with fail
  go_loopw [4, 33] (fun v4 v33 wr => ∃ (j : Nat) (vs : List Value), v33 = .int .i64 (j : Nat) ∧ j ≤ n ∧ GrowX w0.heap.size W9.heap.size wr v4 (extT (xs.take j)) vs ∧ Below W9.heap.size W9 wr) (fun _ v _ => n - (intOf v).toNat)
  case atStart => exact ⟨0, _, rfl, Nat.zero_le _, HGX.out, Below.refl _ _⟩
  case round =>
    obtain ⟨j, vs, rfl, hj, hgx, hbel⟩ := hrel
    have BEL := Lib.hid (HB9.out.trans (hbel.mono HB9.out.size))
    have HBXr := Lib.hid (HBX9.out.below' hbel)
    have HRSr := Lib.hid (HRS9.out.below' hbel)
    have HB9r := Lib.hid hbel
    have HWr := Lib.hid (show W9.heap.size ≤ wr.heap.size from hbel.size)
    have HG := Lib.hid hgx
    have HW09 := Lib.hid (show w0.heap.size ≤ W9.heap.size from by have := HS9.out; have := HW0.out; omega)
    have HB0r := Lib.hid (H0B.out.trans (Below.mono BEL.out HW0.out))
    clear hgx hbel
    by_cases hjn : j < n
    · obtain ⟨y, hy⟩ : ∃ y, xs[j]? = some y := ⟨xs[j]'(by have := HL.out; omega), List.getElem?_eq_getElem _⟩
      have hyb := H2C.out j y hy
      obtain ⟨v, hv⟩ : ∃ v : Nat, y.1 = (v : Int) := Int.eq_ofNat_of_zero_le (by omega)
      have hv1 : 1 ≤ v := by omega
      have hv2 : v ≤ 2147483647 := by omega
      obtain ⟨g, o, rfl, hrow⟩ := HX.out.2.2.2.2.resolve_left (by omega)
      obtain ⟨hxb, a2, c2, hr, hbi⟩ := hrow.at hy
      obtain ⟨m2, hm2⟩ : ∃ q, y.2.2.length = q := ⟨_, rfl⟩
      rw [hm2] at hr hbi
      rw [hv] at hr
      have HR := Lib.hid (rangeAt_below hr HB0r.out)
      have HBI := Lib.hid hbi
      have HM2 := Lib.hid hm2
      have HEXT := Lib.hid (show extT (xs.take (j + 1)) = (extT (xs.take j)).app (.node 48 [] (extK v y.2.1 y.2.2) .nil) from by rw [extT_snoc hy, hv]; rfl)
      have HAL := Lib.hid (show (extT (xs.take j)).len = j from by rw [extT_len, List.length_take]; have := HL.out; omega)
      have HV1 := Lib.hid hv1
      have HV2 := Lib.hid hv2
      have hji : (j : Int) < (n : Int) := by omega
      have hj0 : (0 : Int) ≤ (j : Int) := by omega
      obtain ⟨A, hA⟩ : ∃ A, extT (xs.take j) = A := ⟨_, rfl⟩
      rw [hA] at HG HEXT HAL
      clear hr hrow hy hm2 hbi hyb hv hv1 hv2 hxb hA
      go_wp2_with (first | (refine ldX rfl (.tmp 35) rfl g (o + j * 3) rfl _ _ _ HR.out ?_) | (refine wpList_store_row (P := Tryz.prog) rfl 67 (.tmp 6) (.tmp 36) rfl wr.heap.size #[.int .i64 (v : Nat), .bool y.2.1, .slice a2 m2 c2] rfl rfl 67 _ (Blk.new wr 67 [.int .i64 0, .bool false, .slice none 0 0]) info65 rfl (all_ext _ _ _ _ _) ?_; go_loud (have hbE : Gr wr ((wr.alloc (.cells #[.int .i64 0, .bool false, .slice none 0 0] 67)).setRow wr.heap.size #[.int .i64 (v : Nat), .bool y.2.1, .slice a2 m2 c2]) := below_setRow' (Gr.alloc wr _) (Nat.le_refl _) _; have HE := Lib.hid ((Blk.new wr 67 [.int .i64 0, .bool false, .slice none 0 0]).setRow [.int .i64 (v : Nat), .bool y.2.1, .slice a2 m2 c2]); have HGE := Lib.hid hbE; clear hbE; generalize (wr.alloc (.cells #[.int .i64 0, .bool false, .slice none 0 0] 67)).setRow wr.heap.size #[.int .i64 (v : Nat), .bool y.2.1, .slice a2 m2 c2] = w10 at *)) | (refine wpList_load_row (P := Tryz.prog) rfl 67 (.tmp 6) rfl wr.heap.size rfl 67 _ _ _ HE.out Tryz.underlying67 rfl info65 ?_) | (go_at_call 82; go_loud (have hdb : Dep (fun j => j < w0.heap.size) w10 (fun W => BIn W a2 m2 c2 y.2.2) := dep_bin HBI.out (HB0r.out.trans (Below.mono HGE.out HB0r.out.size)); have hbn : m2 ≤ 140737488355328 := HBI.out.2.2.2.1; have hss : w0.heap.size ≤ w10.heap.size := Nat.le_trans HB0r.out.size (Below.size HGE.out); (with_reducible refine (ofExt_k w10 v y.2.1 HV1.out HV2.out y.2.2 a2 m2 c2 HM2.out hbn w0.heap.size hss hdb).mono ?_); rintro e w11 ⟨a3, n3, c3, b3, m3, d3, hn3, hm3, rfl, hd3, hb3⟩; have HN3 := Lib.hid hn3; have HM3 := Lib.hid hm3; have HD3 := Lib.hid hd3; have HG3 := Lib.hid (show Gr wr w11 from HGE.out.trans hb3); clear hdb hbn hss hn3 hm3 hd3 hb3)) | (at_builtin; refine wpList_append_lies _ rfl (.tmp 37) (.tmp 40) 43 rfl W9.heap.size 45 i25 _ 3 56 Tryz.underlying43 hi25 hz25 hs25 hy25 rfl (by decide) u4 A.len vs rfl (own_below HG.out.1 (HG3.out.trans (Gr.alloc _ _))) ⟨w11.heap.size, 0, none⟩ 1 1 [.int .u8 48, .slice a3 n3 c3, .slice b3 m3 d3] rfl rfl (news_lit _ _ _) (all1_item _ _ _ _ _ _ _) (by decide) (by have := HAL.out; simp only [maxLen]; omega) (by have := HAL.out; omega) (by { have h1 := HWr.out; have h2 := HG3.out.size; simp; omega }) _ rfl ?_; intro g5 cap5 w12 hown5 hg5 hat5 hlt5; go_loud (have HPU := Lib.hid (GrowX.push HG.out HW09.out HG3.out (Gr.alloc w11 (.cells #[.int .u8 48, .slice a3 n3 c3, .slice b3 m3 d3] 45)) HN3.out HM3.out HGE.out.size HWr.out HD3.out hg5 (by simp) hat5 hown5); have HB12 := Lib.hid (HB9r.out.trans (grown_below9 HWr.out (own_ob_lt HG.out.1) (HG3.out.trans (Gr.alloc w11 (.cells #[.int .u8 48, .slice a3 n3 c3, .slice b3 m3 d3] 45))) hg5)); clear hown5 hg5 hat5 hlt5)))
      go_roundw
      case rel =>
        refine ⟨j + 1, _, by go_num, by omega, by rw [HEXT.out]; exact HPU.out, HB12.out⟩
      case measure => simp [intOf]; omega
    · have hji : ¬ (j : Int) < (n : Int) := by omega
      have hjl : j = n := by omega
      have hte : extT (xs.take j) = extT xs := by rw [hjl, List.take_of_length_le (by have := HL.out; omega)]
      rw [hte] at HG
      have HAL := Lib.hid (show (extT xs).len = n from by rw [extT_len]; exact HL.out)
      obtain ⟨g8, cap8, e8, _, _⟩ := HG.out.1.form (by have := HAL.out; omega)
      rw [HAL.out] at e8
      subst e8
      have HKX := Lib.hid (HG.out.kin HAL.out (by omega))
      clear hte hjl
      go_wp2_with (first | (go_at_call 80; (have hits : Dep (FO w0.heap.size (w.heap.size + 2)) w15 (fun x => Its x ((tbsK sn ib sb kb .nil).app (.node 163 [] (.node 48 [] (extT xs) .nil) .nil)) _) := ((HI7.out.and (dep_cons HN14.out HM14.out HXF.out (dep_its0 (D := NoD)))).map (fun x hx => hx.1.app hx.2)).mono (fun j hj _ => by { have h9 := HS9.out; rcases hj with h | h | h; exact .inr h.1; rcases h.1 with h3 | h3; exact .inl h3; exact .inr (by omega); exact h.elim }); have hkd : Dep (FO w0.heap.size (w.heap.size + 2)) w15 (fun x => KIn x (some ⟨g15, 0, none⟩) cap15 ((tbsK sn ib sb kb .nil).app (.node 163 [] (.node 48 [] (extT xs) .nil) .nil))) := (own_kin HOW15.out rfl (by decide) hits).mono (fun j hj _ => by { rcases hj with h | h; exact h; exact .inr h }); (with_reducible refine (seq_d (FO w0.heap.size (w.heap.size + 2)) w15 _ 8 _ ((tbsK sn ib sb kb .nil).app (.node 163 [] (.node 48 [] (extT xs) .nil) .nil)) rfl hkd).mono ?_); rintro e w16 ⟨a16, n16, c16, b16, m16, d16, hn16, hm16, rfl, hd16, hb16⟩; have HN16 := Lib.hid hn16; have HM16 := Lib.hid hm16; have HD16 := Lib.hid (hd16.mono (E := FO w0.heap.size (w.heap.size + 2)) (fun j hj _ => by { rcases hj with h | h; exact h; exact .inr (Nat.le_trans HS15.out h) })); have HRS16 := Lib.hid (HRS15.out.below' hb16); have H16 := Lib.hid (H15.out.trans (Below.mono hb16 H15.out.size)); clear hits hkd hn16 hm16 hd16 hb16)) | (go_at_call 80; go_loud ((with_reducible refine (seq_d (FO w0.heap.size W9.heap.size) wr _ n _ (extT xs) HAL.out HKX.out).mono ?_); rintro e w13 ⟨a13, n13, c13, b13, m13, d13, hn13, hm13, rfl, hd13, hb13⟩; have HN13 := Lib.hid hn13; have HM13 := Lib.hid hm13; have HD13 := Lib.hid (hd13.mono (E := FO w0.heap.size W9.heap.size) (fun j hj _ => by { rcases hj with h | h; exact h; exact .inr (Nat.le_trans HWr.out h) })); have HG13 := Lib.hid (show Gr W9 w13 from HB9r.out.trans (Below.mono hb13 HB9r.out.size)); clear hn13 hm13 hd13 hb13)) | (go_at_call 83; go_loud (have hli : Dep (FO w0.heap.size W9.heap.size) (w13.alloc (.cells #[.int .u8 48, .slice a13 n13 c13, .slice b13 m13 d13] 45)) (fun x => KIn x (some ⟨w13.heap.size, 0, none⟩) 1 (.node 48 [] (extT xs) .nil)) := lit_o (one_o 48 rfl HN13.out HM13.out HD13.out) rfl (by decide) HG13.out.size; (with_reducible refine (item_d (FO w0.heap.size W9.heap.size) 163 163 rfl (by decide) _ _ 1 1 (.node 48 [] (extT xs) .nil) rfl hli).mono ?_); rintro e w14 ⟨a14, n14, c14, b14, m14, d14, hn14, hm14, rfl, hd14, hb14⟩; have HN14 := Lib.hid hn14; have HM14 := Lib.hid hm14; have hg14 : Gr w13 w14 := (Gr.alloc _ _).trans hb14; have HG14 := Lib.hid (show Gr W9 w14 from Gr.trans HG13.out hg14); have HD14 := Lib.hid ((hd14.mono (E := FO w0.heap.size W9.heap.size) (fun j hj _ => by { rcases hj with h | h; exact h; exact .inr (Nat.le_trans HG13.out.size (Nat.le_trans (by simp) h)) })).self); clear hn14 hm14 hd14 hb14 hg14 hli)) | (at_builtin; refine wpList_append_lies _ rfl (.tmp 43) (.tmp 48) 43 rfl (w.heap.size + 2) 45 i25 _ 3 56 Tryz.underlying43 hi25 hz25 hs25 hy25 rfl (by decide) (.slice (some ⟨V11.heap.size, 0, none⟩) 7 7) 7 [.int .u8 160, .slice a1 n1 c1, .slice b1 m1 d1, .int .u8 2, .slice a2 n2 c2, .slice b2 m2 d2, .int .u8 48, .slice a3 n3 c3, .slice b3 m3 d3, .int .u8 48, .slice a4 n4 c4, .slice b4 m4 d4, .int .u8 48, .slice a5 n5 c5, .slice b5 m5 d5, .int .u8 48, .slice a6 n6 c6, .slice b6 m6 d6, .int .u8 48, .slice a10 n10 c10, .slice b10 m10 d10] rfl (own_below HOW7.out (Gr.trans HG14.out (Gr.alloc _ _))) ⟨w14.heap.size, 0, none⟩ 1 1 [.int .u8 163, .slice a14 n14 c14, .slice b14 m14 d14] rfl rfl (news_lit _ _ _) (all1_item _ _ _ _ _ _ _) (by decide) (by decide) (by decide) (by { have h1 := HS9.out; have h2 := HG14.out.size; simp; omega }) _ rfl ?_; intro g15 cap15 w15 hown15 hg15 hat15 hlt15; go_loud (replace hg15 : World.grownBy (w14.alloc (.cells #[.int .u8 163, .slice a14 n14 c14, .slice b14 m14 d14] 45)) w15 (some V11.heap.size) := hg15; have hgv : Gr W9 (w14.alloc (.cells #[.int .u8 163, .slice a14 n14 c14, .slice b14 m14 d14] 45)) := Gr.trans HG14.out (Gr.alloc _ _); have HI7 := Lib.hid (HIT.out.skip hgv hg15 (fun h => Nat.lt_irrefl _ h.2)); have HXF := Lib.hid (HD14.out.skip (Gr.alloc w14 (.cells #[.int .u8 163, .slice a14 n14 c14, .slice b14 m14 d14] 45)) hg15 (fun h => by { have h1 := HV9.out; have h2 := HSV.out; have h0s := HW0.out; rcases h.1 with h3 | h3 <;> omega })); have HOW15 := Lib.hid hown15; have HRS15 := Lib.hid ((HRS9.out.below' hgv).grown hg15 (by have := HSV.out; intro e; injection e with e; omega)); have H15 := Lib.hid (grown_base' (HB9.out.trans (Below.mono hgv HB9.out.size)) hg15 (by have := HSV.out; omega) (by have h1 := HS9.out; have h2 := hgv.size; omega)); have HS15 := Lib.hid (show w.heap.size + 2 ≤ w15.heap.size from Nat.le_trans HS9.out (Nat.le_trans hgv.size hg15.size)); clear hgv hown15 hg15 hat15 hlt15)) | (refine wpList_store_row (P := Tryz.prog) rfl 45 (.tmp 2) (.tmp 51) rfl (w.heap.size + 1) #[.int .u8 48, .slice a16 n16 c16, .slice b16 m16 d16] rfl rfl 45 _ HRS16.out info25 rfl (all_item _ _ _ _ _ _ _) ?_))
      refine bodyPost_ret (results_one Tryz.results40 _ _ (w.heap.size + 1) 45 _ (0, 0) _ rfl (HRS16.out.setRow [.int .u8 48, .slice a16 n16 c16, .slice b16 m16 d16]) Tryz.underlying45 rfl info25) rfl ?_
      have hfd := (HD16.out.row (w.heap.size + 1) #[.int .u8 48, .slice a16 n16 c16, .slice b16 m16 d16] (fun h => by have h0s := HW0.out; rcases h with h | h <;> omega))
      rw [HXS.out]
      exact ⟨a16, n16, c16, b16, m16, d16, HN16.out, HM16.out, rfl, hfd.mono (fun j hj _ => by rcases hj with h | h; exact .inl h; exact .inr (by omega)), below_setRow' H16.out (by omega) _⟩
theorem ItR.up {D E : Nat → Prop} {t : Nat} {b : List Nat} {k : Tr} {w : World} {e : Ending} {w' : World} (h : ItR D t b k w e w') (hD : ∀ j, D j → E j) : ItR E t b k w e w' := by
  obtain ⟨a, n, c, a', m, c', h1, h2, h3, h4, h5⟩ := h
  exact ⟨a, n, c, a', m, c', h1, h2, h3, h4.mono (fun j hj _ => by rcases hj with h | h; exact .inl (hD j h); exact .inr h), h5⟩
theorem ofSigned_any (w0 w : World) (h0 : Below w0.heap.size w0 w) (sn : Nat) (hsn : sn < 18446744073709551616) (is su : ByteArray) (ib sb : List Nat) (hib : strL is = ib) (hsb : strL su = sb) (his : is.size ≤ 140737488355328) (hsu : su.size ≤ 140737488355328)
    (ka : Option Addr) (kn kc : Nat) (kb : List Nat) (hk : BIn w ka kn kc kb) (hkn : kn ≤ 140737488351232) (xa : Option Addr) (n xc : Nat) (xs : List XV) (hx : XIn w0 xa n xc xs) (hn16 : n ≤ 16) (hc2 : C2 xs) (sa : Option Addr) (sl sc : Nat) :
    Calls Tryz.prog 40 #[.agg #[.int .u64 (sn : Nat), .string is, .string su, .slice ka kn kc, .slice xa n xc, .slice sa sl sc]] w (ItR (fun j => j < w0.heap.size) 48 [] (tbsK sn ib sb kb (exT xs)) w) := by
  by_cases h : n = 0
  · subst h
    have : xs = [] := List.eq_nil_of_length_eq_zero hx.1
    subst this
    exact (ofSigned_0 w sn hsn is su ib sb hib hsb his hsu ka kn kc kb hk hkn xa xc sa sl sc).mono fun e w' h => h.up (fun _ h => h.elim)
  · exact ofSigned_x w0 w h0 sn hsn is su ib sb hib hsb his hsu ka kn kc kb hk hkn xa n xc xs hx (by omega) hn16 hc2 sa sl sc
end Go.Proofs.YtbabpmncdphnjaaGreat
