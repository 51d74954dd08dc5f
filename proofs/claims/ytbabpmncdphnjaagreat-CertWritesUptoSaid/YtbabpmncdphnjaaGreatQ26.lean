/- Parts of proofs of statements, each text behind those that it stands on. No condition of its own. -/
import Derived.Test.YtbabpmncdphnjaaGreatQ25
namespace Go.Proofs.YtbabpmncdphnjaaGreat
open Go.RowKit
set_option linter.unusedVariables false
set_option maxRecDepth 100000
set_option linter.unusedSimpArgs false
set_option maxHeartbeats 4000000 in
theorem rseq_v (t : Nat) (ti : Int) (hti : (t : Int) = ti) (w : World) (a : Option Addr) (n c : Nat) : Calls Tryz.prog 24 #[.int .u8 ti, .slice a n c] w fun e w' => e = .returned (itV t none 0 0 a n c) ∧ Below w.heap.size w w' := by
  subst hti
  have B0 := Lib.hid (Blk.new w 45 [.int .u8 0, .slice none 0 0, .slice none 0 0])
  have BEL := Lib.hid ((Below.refl _ w).alloc (Nat.le_refl _) (.cells #[.int .u8 0, .slice none 0 0, .slice none 0 0] 45))
  go_enter Tryz.func24, Tryz.ntmps24
  go_wp2_with (first | (refine wpList_store_row (P := Tryz.prog) rfl 45 (.tmp 4) (.tmp 7) rfl w.heap.size #[.int .u8 (t : Nat), .slice none 0 0, .slice a n c] rfl rfl 45 _ B0.out info25 rfl (all_item _ _ _ _ _ _ _) ?_))
  have D3 := B0.out.setRow [.int .u8 (t : Nat), .slice none 0 0, .slice a n c]
  refine bodyPost_ret (results_one Tryz.results24 _ _ w.heap.size 45 _ (0, 0) _ rfl D3 Tryz.underlying45 rfl info25) rfl ?_
  exact ⟨rfl, below_setRow' BEL.out (Nat.le_refl _) _⟩
set_option maxHeartbeats 4000000 in
theorem rOfTrue_d (w : World) : Calls Tryz.prog 89 #[.bool true] w (ItR NoD 1 [255] .nil w) := by
  have H1 := Lib.hid ((Blk.new w 45 [.int .u8 0, .slice none 0 0, .slice none 0 0]).alloc (.cells #[.int .u8 255] 5))
  have HD := Lib.hid (dep_itnil (t := 1) (by decide) (by decide) (dep_own (l := [255]) (true_own w) (by simp) (by decide)))
  have H00 := Lib.hid (((Below.refl _ w).alloc (Nat.le_refl _) (.cells #[.int .u8 0, .slice none 0 0, .slice none 0 0] 45)).alloc (by simp) (.cells #[.int .u8 255] 5))
  go_enter Tryz.func89, Tryz.ntmps89
  go_wp2_with (refine wpList_store_row (P := Tryz.prog) rfl 45 (.tmp 2) (.tmp 5) rfl w.heap.size #[.int .u8 1, .slice (some ⟨w.heap.size + 1, 0, none⟩) 1 1, .slice none 0 0] rfl rfl 45 _ H1.out info25 rfl (all_item _ _ _ _ _ _ _) ?_)
  refine bodyPost_ret (results_one Tryz.results89 _ _ w.heap.size 45 _ (0, 0) _ rfl (H1.out.setRow [.int .u8 1, .slice (some ⟨w.heap.size + 1, 0, none⟩) 1 1, .slice none 0 0]) Tryz.underlying45 rfl info25) rfl ?_
  exact fin_item rfl rfl (by simp) HD.out H00.out _
def GrowK (w0s base gi : Nat) (w : World) (v : Value) (n : Nat) (A : Tr) (vs : List Value) : Prop :=
  A.len = n ∧ w.ownsRow base 45 3 v n vs ∧ gi ∉ ob v ∧ Dep (fun j => (j < w0s ∨ base ≤ j) ∧ j ≠ gi ∧ j ∉ ob v) w (fun x => Its x A vs)
theorem GrowK.below {w0s base gi n : Nat} {w w' : World} {v : Value} {A : Tr} {vs : List Value} (h : GrowK w0s base gi w v n A vs) (hb : Gr w w') : GrowK w0s base gi w' v n A vs := ⟨h.1, own_below h.2.1 hb, h.2.2.1, h.2.2.2.below hb⟩
theorem GrowK.cellK {w0s base gi n : Nat} {w w' : World} {v : Value} {A : Tr} {vs : List Value} (h : GrowK w0s base gi w v n A vs) (hg : w.grownBy w' (some gi)) : GrowK w0s base gi w' v n A vs :=
  ⟨h.1, own_keep h.2.1 (fun j hj => hg.block j (own_ob_lt h.2.1 j hj).2 (fun e => by injection e with e; exact h.2.2.1 (e ▸ hj))), h.2.2.1, h.2.2.2.keep hg.size (fun j hj hl => hg.block j hl (fun e => by injection e with e; exact hj.2.1 e)) (fun _ h _ => h)⟩
theorem GrowK.push {w0s base gi H n : Nat} {wr w4 w5 : World} {v : Value} {A : Tr} {vs : List Value} (h : GrowK w0s base gi wr v n A vs) {E : Nat → Prop} {t : Nat} {b : List Nat} {k : Tr} {a a' : Option Addr} {nn m c c' : Nat} (hn : b.length = nn) (hm : k.len = m) (hg4 : Gr wr w4)
    (hi : Dep E w4 (fun x => ItIn x t a c a' c' b k)) (hE : ∀ j, E j → j < w4.heap.size → (j < w0s ∨ base ≤ j) ∧ j ≠ gi ∧ j ∉ ob v) (hg : w4.grownBy w5 v.ownBlock) (hgi : gi < wr.heap.size) {g cap : Nat} (hH : w4.heap.size ≤ H) (hat : v.ownBlock = some g ∨ g = H)
    (ho : w5.ownsRow base 45 3 (.slice (some ⟨g, 0, none⟩) (n + 1) cap) (n + 1) (vs ++ [.int .u8 (t : Nat), .slice a nn c, .slice a' m c'])) :
    GrowK w0s base gi w5 (.slice (some ⟨g, 0, none⟩) (n + 1) cap) (n + 1) (A.app (.node t b k .nil)) (vs ++ [.int .u8 (t : Nat), .slice a nn c, .slice a' m c']) := by
  have s2 := hg4.size
  have hgn : ∀ x, x ∈ ob (.slice (some ⟨g, 0, none⟩) (n + 1) cap) → x = g := fun x hx => by simpa [ob, Value.ownBlock] using hx
  have hvl := own_ob_lt h.2.1
  refine ⟨by rw [Tr.len_app, h.1]; rfl, ho, fun hx => ?_, ?_⟩
  · have := hgn _ hx
    rcases hat with h5 | h5
    · exact h.2.2.1 (by rw [this]; simp [ob, h5])
    · omega
  have h1 : Dep (fun j => ((j < w0s ∨ base ≤ j) ∧ j ≠ gi ∧ j ∉ ob v) ∧ j < wr.heap.size) w5 (fun x => Its x A vs) :=
    h.2.2.2.self.keep (by have := hg.size; omega) (fun j hj hl => (hg.block j (by omega) (fun e => hj.1.2.2 (by simp [ob, ← e]))).trans (hg4.block j hl)) (fun _ h _ => h)
  have h2 : Dep (fun j => E j ∧ j < w4.heap.size) w5 (fun x => ItIn x t a c a' c' b k) :=
    hi.self.keep hg.size (fun j hj hl => hg.block j hl (fun e => (hE j hj.1 hl).2.2 (by simp [ob, ← e]))) (fun _ h _ => h)
  have h3 := dep_cons hn hm h2 (dep_its0 (D := NoD))
  refine ((h1.and h3).map (fun x hx => hx.1.app hx.2)).mono (fun j hj _ => ?_)
  have hne : (j ∉ ob v) → j < w4.heap.size → j ∉ ob (.slice (some ⟨g, 0, none⟩) (n + 1) cap) := fun h6 h7 hx => by
    have := hgn j hx
    subst this
    rcases hat with h5 | h5
    · exact h6 (by simp [ob, h5])
    · omega
  rcases hj with hj | hj | hj
  · exact ⟨hj.1.1, hj.1.2.1, hne hj.1.2.2 (by omega)⟩
  · obtain ⟨e1, e2, e3⟩ := hE j hj.1 hj.2
    exact ⟨e1, e2, hne e3 hj.2⟩
  · exact hj.elim
def KdAt (w0s base gi t : Nat) (A : Tr) (w : World) : Prop :=
  ∃ ka kn kc vs, Blk w gi 45 [.int .u8 (t : Nat), .slice none 0 0, .slice ka kn kc] ∧ GrowK w0s base gi w (.slice ka kn kc) kn A vs
theorem KdAt.below {w0s base gi t : Nat} {A : Tr} {w w' : World} (h : KdAt w0s base gi t A w) (hb : Gr w w') : KdAt w0s base gi t A w' := by
  obtain ⟨ka, kn, kc, vs, h1, h2⟩ := h
  exact ⟨ka, kn, kc, vs, h1.below' hb, h2.below hb⟩
theorem own_kin2 {D : Nat → Prop} {w : World} {base n : Nat} {ka : Option Addr} {cap : Nat} {T : Tr} {xs : List Value} (hown : w.ownsRow base 45 3 (.slice ka n cap) n xs) (hn : T.len = n) (hl : n ≤ 1000) (h : Dep D w (fun x => Its x T xs)) :
    Dep (fun j => D j ∨ j ∈ ob (.slice ka n cap)) w (fun x => KIn x ka cap T) := by
  rcases hown.2 with ⟨e, h0⟩ | ⟨g, cap', cur', e, hbg', hg', h1', h2', h3', h4'⟩
  · injection e with e1 e2 e3
    subst e1 e3
    have : T = .nil := by
      cases T with
      | nil => rfl
      | node _ _ _ _ => simp [Tr.len] at hn; omega
    subst this
    exact fun w'' _ => KIn.nil w''
  · injection e with e1 e2 e3
    subst e1 e3
    intro w'' hw
    obtain ⟨cur, hb, hcl, htk, hnc, hcm, hbg⟩ := own_cur hown
    have hi := h w'' (fun j hj hl => hw j (.inl hj) hl)
    have hb2 : Blk w'' g 45 cur := hb.of (hw g (.inr (by simp [ob, Value.ownBlock])) hb.lt)
    refine ⟨⟨by omega, by omega, fun h => by cases h⟩, .inr ⟨g, 0, rfl, hi.row (fun j u hu => ?_)⟩⟩
    rw [Nat.zero_add, hb2.cell j]
    rw [← htk, List.getElem?_take] at hu
    split at hu
    · exact hu
    · cases hu
theorem KdAt.kin {w0s base gi t : Nat} {A : Tr} {w : World} (h : KdAt w0s base gi t A w) (hl : A.len ≤ 1000) :
    ∃ ka kn kc, A.len = kn ∧ Blk w gi 45 [.int .u8 (t : Nat), .slice none 0 0, .slice ka kn kc] ∧ Dep (fun j => (j < w0s ∨ base ≤ j) ∧ j ≠ gi) w (fun x => KIn x ka kc A) := by
  obtain ⟨ka, kn, kc, vs, h1, h2, h3, h4, h5⟩ := h
  refine ⟨ka, kn, kc, h2, h1, (own_kin2 h3 h2 (by omega) (h5.mono (fun j hj _ => hj))).mono (fun j hj _ => ?_)⟩
  rcases hj with hj | hj
  · exact ⟨hj.1, hj.2.1⟩
  · exact ⟨.inr (own_ob_lt h3 j hj).1, fun e => h4 (e ▸ hj)⟩
set_option maxRecDepth 100000 in
set_option maxHeartbeats 16000000 in
theorem rext_true (w : World) (v : Nat) (h1 : 1 ≤ v) (h2 : v ≤ 2147483647) (l : List Nat) (a : Option Addr) (n c : Nat) (hn : l.length = n) (hn2 : n ≤ 140737488355328) (B0 : Nat) (hB : B0 ≤ w.heap.size) (hv : Dep (fun j => j < B0) w (fun W => BIn W a n c l)) :
    Calls Tryz.prog 48 #[.agg #[.int .i64 (v : Nat), .bool true, .slice a n c]] w (ItR (fun j => j < B0) 48 [] (extK v true l) w) := by
  have h00 := ((Below.refl _ w).alloc (Nat.le_refl _) (.cells #[.int .i64 (v : Nat), .bool true, .slice a n c] 67)).alloc (by simp) (.cells #[.int .u8 0, .slice none 0 0, .slice none 0 0] 45)
  have HBX := Lib.hid ((Blk.new w 67 [.int .i64 (v : Nat), .bool true, .slice a n c]).alloc (.cells #[.int .u8 0, .slice none 0 0, .slice none 0 0] 45))
  have HRS := Lib.hid (Blk.new2 w (.cells #[.int .i64 (v : Nat), .bool true, .slice a n c] 67) 45 [.int .u8 0, .slice none 0 0, .slice none 0 0])
  have HSZ := Lib.hid (show w.heap.size + 2 ≤ ((w.alloc (.cells #[.int .i64 (v : Nat), .bool true, .slice a n c] 67)).alloc (.cells #[.int .u8 0, .slice none 0 0, .slice none 0 0] 45)).heap.size by simp)
  have HV := Lib.hid (hv.below h00)
  have H00 := Lib.hid h00
  have HN := Lib.hid hn
  have HNN := Lib.hid hn2
  have HB := Lib.hid hB
  have hvi : (v : Int) ≤ 2147483647 := by omega
  have hv0 : (0 : Int) ≤ (v : Int) := by omega
  have H1 := Lib.hid h1
  have H2 := Lib.hid h2
  clear hv h00 hn hB h1 h2 hn2
  go_enter Tryz.func48, Tryz.ntmps48
  generalize hW0 : (w.alloc (.cells #[.int .i64 (v : Nat), .bool true, .slice a n c] 67)).alloc (.cells #[.int .u8 0, .slice none 0 0, .slice none 0 0] 45) = W0 at *
  have k0 := blkc HBX.out (i := 0) rfl
  have HOB := Lib.hid (robject_d W0 2100 v 2100 v rfl rfl (by decide) (by have := H1.out; omega) (by have := H2.out; omega) (ext_ok (by have := H2.out; omega)))
  go_upto_region 2 with (first
    | (go_at_call 49; go_loud ((with_reducible refine HOB.out.mono ?_); rintro e w2 ⟨a2, n2, c2, b2, m2, d2, hn2, hm2, rfl, hd2, hb2⟩; have HN2 := Lib.hid hn2; have HM2 := Lib.hid hm2; have HD2 := Lib.hid hd2; have HG2 := Lib.hid hb2; clear hn2 hm2 hd2 hb2))
    | (go_at_call 24; go_loud ((with_reducible refine (rseq_v 48 48 rfl (w2.alloc (.cells #[.int .u8 6, .slice a2 n2 c2, .slice b2 m2 d2] 45)) (some ⟨w2.heap.size, 0, none⟩) 1 1).mono ?_); rintro e w3 ⟨rfl, hb3⟩; have HG3 := Lib.hid hb3; have HZ3 := Lib.hid (Blk.new w3 45 [.int .u8 0, .slice none 0 0, .slice none 0 0]); clear hb3))
    | (refine wpList_store_row (P := Tryz.prog) rfl 45 (.tmp 3) (.tmp 9) rfl w3.heap.size #[.int .u8 48, .slice none 0 0, .slice (some ⟨w2.heap.size, 0, none⟩) 1 1] rfl rfl 45 _ HZ3.out info25 rfl (all_item _ _ _ _ _ _ _) ?_))
  have hs20 := HSZ.out
  have hs2 := HG2.out.size
  have hs3 := HG3.out.size
  simp only [World.size_alloc] at hs3
  have hg24 : Gr (w2.alloc (.cells #[.int .u8 6, .slice a2 n2 c2, .slice b2 m2 d2] 45)) ((w3.alloc (.cells #[.int .u8 0, .slice none 0 0, .slice none 0 0] 45)).setRow w3.heap.size #[.int .u8 48, .slice none 0 0, .slice (some ⟨w2.heap.size, 0, none⟩) 1 1]) := HG3.out.trans (Below.mono (below_setRow' (Gr.alloc w3 (.cells #[.int .u8 0, .slice none 0 0, .slice none 0 0] 45)) (Nat.le_refl _) #[.int .u8 48, .slice none 0 0, .slice (some ⟨w2.heap.size, 0, none⟩) 1 1]) (by simp only [World.size_alloc]; omega))
  have hgk : KdAt B0 (w.heap.size + 2) w3.heap.size 48 (.node 6 (oidB (ouri [2100, v])) .nil .nil) ((w3.alloc (.cells #[.int .u8 0, .slice none 0 0, .slice none 0 0] 45)).setRow w3.heap.size #[.int .u8 48, .slice none 0 0, .slice (some ⟨w2.heap.size, 0, none⟩) 1 1]) := by
    refine ⟨_, 1, 1, _, HZ3.out.setRow [.int .u8 48, .slice none 0 0, .slice (some ⟨w2.heap.size, 0, none⟩) 1 1], rfl, own_below (World.ownsRow_lit (base := w.heap.size + 2) (e := 45) (size := 3) w2 #[.int .u8 6, .slice a2 n2 c2, .slice b2 m2 d2] 1 (by omega) (by decide) rfl) hg24, by simp [ob, Value.ownBlock]; omega, ?_⟩
    have h5 := dep_cons HN2.out HM2.out HD2.out.self (dep_its0 (D := NoD))
    have h6 := (h5.mono (E := fun j => j < w2.heap.size ∧ w.heap.size + 2 ≤ j) (fun j hj _ => by rcases hj with ⟨hj | hj, hl⟩ | hj; exact hj.elim; exact ⟨hl, by omega⟩; exact hj.elim)).below ((Gr.alloc w2 (.cells #[.int .u8 6, .slice a2 n2 c2, .slice b2 m2 d2] 45)).trans hg24)
    exact h6.mono (fun j hj _ => ⟨.inr hj.2, by omega, by simp [ob, Value.ownBlock]; omega⟩)
  have hg04 : Gr W0 ((w3.alloc (.cells #[.int .u8 0, .slice none 0 0, .slice none 0 0] 45)).setRow w3.heap.size #[.int .u8 48, .slice none 0 0, .slice (some ⟨w2.heap.size, 0, none⟩) 1 1]) := HG2.out.trans (Below.mono ((Gr.alloc w2 (.cells #[.int .u8 6, .slice a2 n2 c2, .slice b2 m2 d2] 45)).trans hg24) hs2)
  obtain ⟨W4, hW4⟩ : ∃ W4, (w3.alloc (.cells #[.int .u8 0, .slice none 0 0, .slice none 0 0] 45)).setRow w3.heap.size #[.int .u8 48, .slice none 0 0, .slice (some ⟨w2.heap.size, 0, none⟩) 1 1] = W4 := ⟨_, rfl⟩
  rw [hW4]
  rw [hW4] at hgk hg04
  obtain ⟨gi, hgi⟩ : ∃ gi, w3.heap.size = gi := ⟨_, rfl⟩
  have HGB := Lib.hid (show w.heap.size + 2 ≤ gi by omega)
  have HSB := Lib.hid (show w.heap.size + 2 ≤ W4.heap.size from Nat.le_trans hs20 hg04.size)
  rw [hgi] at hgk
  rw [hgi]
  have HKA := Lib.hid hgk
  have HBX4 := Lib.hid (HBX.out.below' hg04)
  have HRS4 := Lib.hid (HRS.out.below' hg04)
  have HV4 := Lib.hid (HV.out.below hg04)
  have H04 := Lib.hid (H00.out.trans (Below.mono hg04 H00.out.size))
  clear hg24 hgk hg04 hs3 hs2 hs20 hW4 hgi HN2 HM2 HD2 HG2 HG3 HZ3 HOB HBX HRS HV H00 k0
  have k1 := blkc HBX4.out (i := 1) rfl
  obtain ⟨ka, kn, kc, vs, hbi, hgk⟩ := HKA.out
  have HBI := Lib.hid hbi
  have HGK := Lib.hid hgk
  have HKL := Lib.hid (show kn ≤ 100 from by have := hgk.1; simp [Tr.len] at this; omega)
  have HS0 := Lib.hid (Nat.le_refl W4.heap.size)
  have kk := blkc hbi (i := 2) rfl
  clear hbi hgk HKA
  go_upto_region 3 with (fail)
  refine wp_region_L (fun w_ => Below W4.heap.size W4 w_) [4, 6] [0, 5, 6] (by kernel_rfl) (Below.refl _ _).drew ?_
  refine wpAnyL_pure (fun _ _ hS_ hb_ => gr_bel hS_ hb_) (i := 0) rfl (by kernel_rfl) (fun _ _ _ h => h) (pureG (by rfl) (by intro w_; go_simp; first | done | with_reducible rfl)) ?_
  try simp only [Act.put, List.getElem_toArray, List.getElem_cons_succ, List.getElem_cons_zero, List.setIfInBounds_toArray, List.set_cons_zero, List.set_cons_succ]
  refine wpAnyL_take (fun _ _ hS_ hb_ => gr_bel hS_ hb_) (i := 1) rfl (by kernel_rfl) (fun _ _ _ h => h) (worldG (by rfl) (by intro w_ hS_; have q := (hS_.cell (World.block_lt_of_cell? W4 _ kk)).trans kk; go_simp; first | done | with_reducible rfl)) ?_
  try simp only [Act.put, List.getElem_toArray, List.getElem_cons_succ, List.getElem_cons_zero, List.setIfInBounds_toArray, List.set_cons_zero, List.set_cons_succ]
  refine wpAnyL_one (i := 2) (by kernel_rfl) (by decide) fun V5 hv5 hS5 => ?_
  have HSV5 : W4.heap.size ≤ V5.heap.size := by { have h1 := hS5.size; have h2 := HS0.out; omega }
  refine wpOp_callE (i := 2) rfl (by rfl) rfl Tryz.func89 (by kernel_rfl) (by kernel_rfl) #[.bool true] (by simp [Act.eval]) ((itO (B0 := B0) (base := W4.heap.size) (rOfTrue_d V5) HSV5 (fun _ h => h.elim)).mono ?_)
  rintro e w5 ⟨a5, n5, c5, b5, m5, d5, hn5, hm5, rfl, hd5, hb5⟩
  have HN5 := Lib.hid hn5; have HM5 := Lib.hid hm5; clear hn5 hm5
  have HD5 := Lib.hid hd5; clear hd5
  refine ⟨_, rfl, Gr.trans hS5 hb5, ?_⟩
  try simp only [Act.put, List.getElem_toArray, List.getElem_cons_succ, List.getElem_cons_zero, List.setIfInBounds_toArray, List.set_cons_zero, List.set_cons_succ]
  refine wpAnyL_one (i := 3) (by kernel_rfl) (by decide) fun V6 hv6 hS6 => ?_
  have HSV6 : W4.heap.size ≤ V6.heap.size := by { have h1 := hS6.size; have h2 := HS0.out; omega }
  replace HD5 := Lib.hid (HD5.out.below hv6)
  refine wpOp_run (i := 3) (v := .slice (some ⟨V6.heap.size, 0, none⟩) 1 1) (W2 := V6.alloc (.cells #[.int .u8 1, .slice a5 n5 c5, .slice b5 m5 d5] 45)) rfl (by rfl) (by go_simp; first | done | rfl) ?_
  refine ⟨hS6.alloc hS6.size _, ?_⟩
  try simp only [Act.put, List.getElem_toArray, List.getElem_cons_succ, List.getElem_cons_zero, List.setIfInBounds_toArray, List.set_cons_zero, List.set_cons_succ]
  replace HD5 := Lib.hid (HD5.out.below (Gr.alloc V6 (.cells #[.int .u8 1, .slice a5 n5 c5, .slice b5 m5 d5] 45)))
  refine wpAnyL_oneD (i := 4) (by kernel_rfl) (by decide) (by decide) (by kernel_rfl) (by decide) fun Wa hg10 hS10 => ?_
  have hnews := fun j u hu => ((hg10.cell (World.block_lt_of_cell? _ _ (news_lit V6 45 [.int .u8 1, .slice a5 n5 c5, .slice b5 m5 d5] j u hu))).trans (news_lit V6 45 [.int .u8 1, .slice a5 n5 c5, .slice b5 m5 d5] j u hu))
  replace HD5 := Lib.hid (HD5.out.below hg10)
  obtain ⟨i25, hi25, hz25, hs25, hy25⟩ := info_parts info25z
  refine wpOp_append_lies (i := 4) rfl (by rfl) _ _ 43 rfl (w.heap.size + 2) 45 i25 _ 3 56 Tryz.underlying43 hi25 hz25 hs25 hy25 rfl (by decide) (.slice ka kn kc) kn vs rfl (own_below HGK.out.2.1 hS10) ⟨V6.heap.size, 0, none⟩ 1 1 [.int .u8 1, .slice a5 n5 c5, .slice b5 m5 d5] rfl rfl hnews (all1_item _ _ _ _ _ _ _) (by decide) (by have := HKL.out; simp only [maxLen]; omega) (by have := HKL.out; omega) (by have h1 := hS10.size; have h2 := HSB.out; omega) fun g5 cap5 Wb hown5 hg5 hat5 hlt5 => ?_
  try simp only [Act.put, List.getElem_toArray, List.getElem_cons_succ, List.getElem_cons_zero, List.setIfInBounds_toArray, List.set_cons_zero, List.set_cons_succ]
  refine wpAnyL_pure (fun _ _ hS_ hb_ => gr_bel hS_ hb_) (i := 5) rfl (by kernel_rfl) (fun _ _ _ h => h) (pureG (by rfl) (by intro w_; go_simp; first | done | with_reducible rfl)) ?_
  try simp only [Act.put, List.getElem_toArray, List.getElem_cons_succ, List.getElem_cons_zero, List.setIfInBounds_toArray, List.set_cons_zero, List.set_cons_succ]
  have hB11 := (HBI.out.below' hS10).of (hg5.block (gi) (HBI.out.below' hS10).lt (fun e => HGK.out.2.2.1 (by rw [ob, ← e]; simp)))
  refine wpAnyL_cell (i := 6) (g := gi) (x := 2) (t := 45) (u := .slice (some ⟨g5, 0, none⟩) (kn + 1) cap5) (by kernel_rfl) (by kernel_rfl) rfl (by decide) (by kernel_rfl) (by decide) hB11 (by simp) (stS (by rfl) rfl rfl rfl) ?_
  intro Wc hg12 hb12
  try simp only [Act.put, List.getElem_toArray, List.getElem_cons_succ, List.getElem_cons_zero, List.setIfInBounds_toArray, List.set_cons_zero, List.set_cons_succ]
  have hob := own_ob_lt HGK.out.2.1
  have hpu := GrowK.push HGK.out HN5.out HM5.out hS10 HD5.out (fun j hj hl => by have h1 := HGB.out; have h2 := HB.out; have h3 := HBI.out.lt; rcases hj with hj | hj; exact ⟨.inl hj, by omega, fun hx => by have := (hob j hx).1; omega⟩; exact ⟨.inr (by have := HSB.out; omega), by omega, fun hx => by have := (hob j hx).2; omega⟩) hg5 HBI.out.lt (Nat.le_refl _) hat5 hown5
  have hkp : ∀ j, j < w.heap.size + 2 → j ≠ gi → Wc.heap[j]? = W4.heap[j]? := fun j hj hne => (hg12.block j (by have h1 := hg5.size; have h2 := hS10.size; have h3 := HSB.out; omega) (fun e => by injection e with e; exact hne e)).trans ((hg5.block j (by have h2 := hS10.size; have h3 := HSB.out; omega) (fun e => by have h4 := (hob j (by rw [ob, ← e]; simp)).1; omega)).trans (hS10.block j (by have h3 := HSB.out; omega)))
  have HBW2 := Lib.hid (show Below (w.heap.size + 2) W4 Wc from ⟨hg12.os.trans (hg5.os.trans hS10.os), hg12.tape.trans (hg5.tape.trans hS10.tape), hg12.output.trans (hg5.output.trans hS10.output), Nat.le_trans hS10.size (Nat.le_trans hg5.size hg12.size), fun j hj => hkp j hj (fun e => by have h5 := HGB.out; omega)⟩)
  have HKA := Lib.hid (show KdAt B0 (w.heap.size + 2) (gi) 48 _ Wc from ⟨_, _, _, _, hb12, hpu.cellK hg12⟩)
  clear hnews hB11 hpu hown5 hg5 hat5 hlt5 hg12 hb12 hg10 hS10 hkp hob hi25 hz25 hs25 hy25
  have HBX5 := Lib.hid (HBX4.out.below HBW2.out (by omega))
  have HRS5 := Lib.hid (HRS4.out.below HBW2.out (by omega))
  have HV5 := Lib.hid (HV4.out.keep HBW2.out.size (fun j hj _ => HBW2.out.block j (by have := HB.out; omega)) (fun _ h _ => h))
  have H05 := Lib.hid (H04.out.trans (Below.mono HBW2.out (by omega)))
  have HSB5 := Lib.hid (Nat.le_trans HSB.out HBW2.out.size)
  clear HBX4 HRS4 HV4 H04 HSB HBW2 HBI HGK HKL kk k1 HS0
  have k2 := blkc HBX5.out (i := 2) rfl
  obtain ⟨ka, kn, kc, vs, hbi, hgk⟩ := HKA.out
  have HBI := Lib.hid hbi
  have HGK := Lib.hid hgk
  have HKL := Lib.hid (show kn ≤ 100 from by have := hgk.1; simp [Tr.len, Tr.app] at this; omega)
  have HS0 := Lib.hid (Nat.le_refl Wc.heap.size)
  have HSB := HSB5
  have kk := blkc hbi (i := 2) rfl
  clear hbi hgk HKA
  go_upto_region 4 with (fail)
  refine wp_region_L (fun w_ => Below Wc.heap.size Wc w_) [6, 8] [0, 2, 7, 8] (by kernel_rfl) (Below.refl _ _).drew ?_
  refine wpAnyL_pure (fun _ _ hS_ hb_ => gr_bel hS_ hb_) (i := 0) rfl (by kernel_rfl) (fun _ _ _ h => h) (pureG (by rfl) (by intro w_; go_simp; first | done | with_reducible rfl)) ?_
  try simp only [Act.put, List.getElem_toArray, List.getElem_cons_succ, List.getElem_cons_zero, List.setIfInBounds_toArray, List.set_cons_zero, List.set_cons_succ]
  refine wpAnyL_pure (fun _ _ hS_ hb_ => gr_bel hS_ hb_) (i := 2) rfl (by kernel_rfl) (fun _ _ _ h => h) (pureG (by rfl) (by intro w_; go_simp; first | done | with_reducible rfl)) ?_
  try simp only [Act.put, List.getElem_toArray, List.getElem_cons_succ, List.getElem_cons_zero, List.setIfInBounds_toArray, List.set_cons_zero, List.set_cons_succ]
  refine wpAnyL_take (fun _ _ hS_ hb_ => gr_bel hS_ hb_) (i := 1) rfl (by kernel_rfl) (fun _ _ _ h => h) (worldG (by rfl) (by intro w_ hS_; have q := (hS_.cell (World.block_lt_of_cell? Wc _ kk)).trans kk; go_simp; first | done | with_reducible rfl)) ?_
  try simp only [Act.put, List.getElem_toArray, List.getElem_cons_succ, List.getElem_cons_zero, List.setIfInBounds_toArray, List.set_cons_zero, List.set_cons_succ]
  refine wpAnyL_take (fun _ _ hS_ hb_ => gr_bel hS_ hb_) (i := 3) rfl (by kernel_rfl) (fun _ _ _ h => h) (worldG (by rfl) (by intro w_ hS_; have q := (hS_.cell (World.block_lt_of_cell? Wc _ k2)).trans k2; go_simp; first | done | with_reducible rfl)) ?_
  try simp only [Act.put, List.getElem_toArray, List.getElem_cons_succ, List.getElem_cons_zero, List.setIfInBounds_toArray, List.set_cons_zero, List.set_cons_succ]
  refine wpAnyL_one (i := 4) (by kernel_rfl) (by decide) fun V7 hv7 hS7 => ?_
  have HSV7 : Wc.heap.size ≤ V7.heap.size := by { have h1 := hS7.size; have h2 := HS0.out; omega }
  replace HV5 := Lib.hid (HV5.out.below hS7)
  refine wpOp_callE (i := 4) rfl (by rfl) rfl Tryz.func88 (by kernel_rfl) (by kernel_rfl) #[.int .u8 4, .slice a n c] (by simp [Act.eval]) ((itO (B0 := B0) (base := Wc.heap.size) (rplain_d (fun j => j < B0) 4 4 rfl (by decide) V7 a n c l HN.out HNN.out HV5.out) HSV7 (fun _ h => .inl h)).mono ?_)
  rintro e w7 ⟨a7, n7, c7, b7, m7, d7, hn7, hm7, rfl, hd7, hb7⟩
  have HN7 := Lib.hid hn7; have HM7 := Lib.hid hm7; clear hn7 hm7
  replace HV5 := Lib.hid (HV5.out.below hb7)
  have HD7 := Lib.hid hd7; clear hd7
  refine ⟨_, rfl, Gr.trans hS7 hb7, ?_⟩
  try simp only [Act.put, List.getElem_toArray, List.getElem_cons_succ, List.getElem_cons_zero, List.setIfInBounds_toArray, List.set_cons_zero, List.set_cons_succ]
  refine wpAnyL_one (i := 5) (by kernel_rfl) (by decide) fun V8 hv8 hS8 => ?_
  have HSV8 : Wc.heap.size ≤ V8.heap.size := by { have h1 := hS8.size; have h2 := HS0.out; omega }
  replace HV5 := Lib.hid (HV5.out.below hv8)
  replace HD7 := Lib.hid (HD7.out.below hv8)
  refine wpOp_run (i := 5) (v := .slice (some ⟨V8.heap.size, 0, none⟩) 1 1) (W2 := V8.alloc (.cells #[.int .u8 4, .slice a7 n7 c7, .slice b7 m7 d7] 45)) rfl (by rfl) (by go_simp; first | done | rfl) ?_
  refine ⟨hS8.alloc hS8.size _, ?_⟩
  try simp only [Act.put, List.getElem_toArray, List.getElem_cons_succ, List.getElem_cons_zero, List.setIfInBounds_toArray, List.set_cons_zero, List.set_cons_succ]
  replace HV5 := Lib.hid (HV5.out.below (Gr.alloc V8 (.cells #[.int .u8 4, .slice a7 n7 c7, .slice b7 m7 d7] 45)))
  replace HD7 := Lib.hid (HD7.out.below (Gr.alloc V8 (.cells #[.int .u8 4, .slice a7 n7 c7, .slice b7 m7 d7] 45)))
  refine wpAnyL_oneD (i := 6) (by kernel_rfl) (by decide) (by decide) (by kernel_rfl) (by decide) fun W10 hg10 hS10 => ?_
  have hnews := fun j u hu => ((hg10.cell (World.block_lt_of_cell? _ _ (news_lit V8 45 [.int .u8 4, .slice a7 n7 c7, .slice b7 m7 d7] j u hu))).trans (news_lit V8 45 [.int .u8 4, .slice a7 n7 c7, .slice b7 m7 d7] j u hu))
  replace HD7 := Lib.hid (HD7.out.below hg10)
  obtain ⟨i25, hi25, hz25, hs25, hy25⟩ := info_parts info25z
  refine wpOp_append_lies (i := 6) rfl (by rfl) _ _ 43 rfl (w.heap.size + 2) 45 i25 _ 3 56 Tryz.underlying43 hi25 hz25 hs25 hy25 rfl (by decide) (.slice ka kn kc) kn vs rfl (own_below HGK.out.2.1 hS10) ⟨V8.heap.size, 0, none⟩ 1 1 [.int .u8 4, .slice a7 n7 c7, .slice b7 m7 d7] rfl rfl hnews (all1_item _ _ _ _ _ _ _) (by decide) (by have := HKL.out; simp only [maxLen]; omega) (by have := HKL.out; omega) (by have h1 := hS10.size; have h2 := HSB.out; omega) fun g5 cap5 W11 hown5 hg5 hat5 hlt5 => ?_
  try simp only [Act.put, List.getElem_toArray, List.getElem_cons_succ, List.getElem_cons_zero, List.setIfInBounds_toArray, List.set_cons_zero, List.set_cons_succ]
  refine wpAnyL_pure (fun _ _ hS_ hb_ => gr_bel hS_ hb_) (i := 7) rfl (by kernel_rfl) (fun _ _ _ h => h) (pureG (by rfl) (by intro w_; go_simp; first | done | with_reducible rfl)) ?_
  try simp only [Act.put, List.getElem_toArray, List.getElem_cons_succ, List.getElem_cons_zero, List.setIfInBounds_toArray, List.set_cons_zero, List.set_cons_succ]
  have hB11 := (HBI.out.below' hS10).of (hg5.block (gi) (HBI.out.below' hS10).lt (fun e => HGK.out.2.2.1 (by rw [ob, ← e]; simp)))
  refine wpAnyL_cell (i := 8) (g := gi) (x := 2) (t := 45) (u := .slice (some ⟨g5, 0, none⟩) (kn + 1) cap5) (by kernel_rfl) (by kernel_rfl) rfl (by decide) (by kernel_rfl) (by decide) hB11 (by simp) (stS (by rfl) rfl rfl rfl) ?_
  intro W12 hg12 hb12
  try simp only [Act.put, List.getElem_toArray, List.getElem_cons_succ, List.getElem_cons_zero, List.setIfInBounds_toArray, List.set_cons_zero, List.set_cons_succ]
  have hob := own_ob_lt HGK.out.2.1
  have hpu := GrowK.push HGK.out HN7.out HM7.out hS10 HD7.out (fun j hj hl => by have h1 := HGB.out; have h2 := HB.out; have h3 := HBI.out.lt; rcases hj with hj | hj; exact ⟨.inl hj, by omega, fun hx => by have := (hob j hx).1; omega⟩; exact ⟨.inr (by have := HSB.out; omega), by omega, fun hx => by have := (hob j hx).2; omega⟩) hg5 HBI.out.lt (Nat.le_refl _) hat5 hown5
  have hkp : ∀ j, j < w.heap.size + 2 → j ≠ gi → W12.heap[j]? = Wc.heap[j]? := fun j hj hne => (hg12.block j (by have h1 := hg5.size; have h2 := hS10.size; have h3 := HSB.out; omega) (fun e => by injection e with e; exact hne e)).trans ((hg5.block j (by have h2 := hS10.size; have h3 := HSB.out; omega) (fun e => by have h4 := (hob j (by rw [ob, ← e]; simp)).1; omega)).trans (hS10.block j (by have h3 := HSB.out; omega)))
  have HBW2 := Lib.hid (show Below (w.heap.size + 2) Wc W12 from ⟨hg12.os.trans (hg5.os.trans hS10.os), hg12.tape.trans (hg5.tape.trans hS10.tape), hg12.output.trans (hg5.output.trans hS10.output), Nat.le_trans hS10.size (Nat.le_trans hg5.size hg12.size), fun j hj => hkp j hj (fun e => by have h5 := HGB.out; omega)⟩)
  have HKA := Lib.hid (show KdAt B0 (w.heap.size + 2) (gi) 48 _ W12 from ⟨_, _, _, _, hb12, hpu.cellK hg12⟩)
  clear hnews hB11 hpu hown5 hg5 hat5 hlt5 hg12 hb12 hg10 hS10 hkp hob hi25 hz25 hs25 hy25
  have HRS6 := Lib.hid (HRS5.out.below HBW2.out (by omega))
  have H06 := Lib.hid (H05.out.trans (Below.mono HBW2.out (by omega)))
  obtain ⟨ka9, kn9, kc9, hl9, hb9, hk9⟩ := KdAt.kin HKA.out (by simp [Tr.len, Tr.app])
  have HBI9 := Lib.hid hb9
  have HL9 := Lib.hid hl9
  have HK9 := Lib.hid hk9
  clear hb9 hl9 hk9 HKA
  go_wp2_with (first
    | (refine wpList_load_row (P := Tryz.prog) rfl 45 (.tmp 3) rfl gi rfl 45 _ _ _ HBI9.out Tryz.underlying45 rfl info25 ?_)
    | (refine wpList_store_row (P := Tryz.prog) rfl 45 (.tmp 2) (.tmp 26) rfl (w.heap.size + 1) #[.int .u8 48, .slice none 0 0, .slice ka9 kn9 kc9] rfl rfl 45 _ HRS6.out info25 rfl (all_item _ _ _ _ _ _ _) ?_))
  refine bodyPost_ret (results_one Tryz.results48 _ _ (w.heap.size + 1) 45 _ (0, 0) _ rfl (HRS6.out.setRow [.int .u8 48, .slice none 0 0, .slice ka9 kn9 kc9]) Tryz.underlying45 rfl info25) rfl ?_
  exact ⟨none, 0, 0, ka9, kn9, kc9, rfl, HL9.out, rfl, (((HK9.out.row (w.heap.size + 1) #[.int .u8 48, .slice none 0 0, .slice ka9 kn9 kc9] (fun h => by have := HB.out; rcases h.1 with h | h <;> omega)).map (fun x hx => (⟨by decide, bin_empty x none 0 (by simp [maxLen]) (fun _ => rfl), hx⟩ : ItIn x 48 none 0 ka9 kc9 [] (extK v true l)))).mono (fun j hj _ => by rcases hj.1 with h | h; exact .inl h; exact .inr (by omega))), below_setRow' H06.out (by omega) _⟩
set_option maxRecDepth 100000 in
set_option maxHeartbeats 16000000 in
theorem rext_false (w : World) (v : Nat) (h1 : 1 ≤ v) (h2 : v ≤ 2147483647) (l : List Nat) (a : Option Addr) (n c : Nat) (hn : l.length = n) (hn2 : n ≤ 140737488355328) (B0 : Nat) (hB : B0 ≤ w.heap.size) (hv : Dep (fun j => j < B0) w (fun W => BIn W a n c l)) :
    Calls Tryz.prog 48 #[.agg #[.int .i64 (v : Nat), .bool false, .slice a n c]] w (ItR (fun j => j < B0) 48 [] (extK v false l) w) := by
  have h00 := ((Below.refl _ w).alloc (Nat.le_refl _) (.cells #[.int .i64 (v : Nat), .bool false, .slice a n c] 67)).alloc (by simp) (.cells #[.int .u8 0, .slice none 0 0, .slice none 0 0] 45)
  have HBX := Lib.hid ((Blk.new w 67 [.int .i64 (v : Nat), .bool false, .slice a n c]).alloc (.cells #[.int .u8 0, .slice none 0 0, .slice none 0 0] 45))
  have HRS := Lib.hid (Blk.new2 w (.cells #[.int .i64 (v : Nat), .bool false, .slice a n c] 67) 45 [.int .u8 0, .slice none 0 0, .slice none 0 0])
  have HSZ := Lib.hid (show w.heap.size + 2 ≤ ((w.alloc (.cells #[.int .i64 (v : Nat), .bool false, .slice a n c] 67)).alloc (.cells #[.int .u8 0, .slice none 0 0, .slice none 0 0] 45)).heap.size by simp)
  have HV := Lib.hid (hv.below h00)
  have H00 := Lib.hid h00
  have HN := Lib.hid hn
  have HNN := Lib.hid hn2
  have HB := Lib.hid hB
  have hvi : (v : Int) ≤ 2147483647 := by omega
  have hv0 : (0 : Int) ≤ (v : Int) := by omega
  have H1 := Lib.hid h1
  have H2 := Lib.hid h2
  clear hv h00 hn hB h1 h2 hn2
  go_enter Tryz.func48, Tryz.ntmps48
  generalize hW0 : (w.alloc (.cells #[.int .i64 (v : Nat), .bool false, .slice a n c] 67)).alloc (.cells #[.int .u8 0, .slice none 0 0, .slice none 0 0] 45) = W0 at *
  have k0 := blkc HBX.out (i := 0) rfl
  have HOB := Lib.hid (robject_d W0 2100 v 2100 v rfl rfl (by decide) (by have := H1.out; omega) (by have := H2.out; omega) (ext_ok (by have := H2.out; omega)))
  go_upto_region 2 with (first
    | (go_at_call 49; go_loud ((with_reducible refine HOB.out.mono ?_); rintro e w2 ⟨a2, n2, c2, b2, m2, d2, hn2, hm2, rfl, hd2, hb2⟩; have HN2 := Lib.hid hn2; have HM2 := Lib.hid hm2; have HD2 := Lib.hid hd2; have HG2 := Lib.hid hb2; clear hn2 hm2 hd2 hb2))
    | (go_at_call 24; go_loud ((with_reducible refine (rseq_v 48 48 rfl (w2.alloc (.cells #[.int .u8 6, .slice a2 n2 c2, .slice b2 m2 d2] 45)) (some ⟨w2.heap.size, 0, none⟩) 1 1).mono ?_); rintro e w3 ⟨rfl, hb3⟩; have HG3 := Lib.hid hb3; have HZ3 := Lib.hid (Blk.new w3 45 [.int .u8 0, .slice none 0 0, .slice none 0 0]); clear hb3))
    | (refine wpList_store_row (P := Tryz.prog) rfl 45 (.tmp 3) (.tmp 9) rfl w3.heap.size #[.int .u8 48, .slice none 0 0, .slice (some ⟨w2.heap.size, 0, none⟩) 1 1] rfl rfl 45 _ HZ3.out info25 rfl (all_item _ _ _ _ _ _ _) ?_))
  have hs20 := HSZ.out
  have hs2 := HG2.out.size
  have hs3 := HG3.out.size
  simp only [World.size_alloc] at hs3
  have hg24 : Gr (w2.alloc (.cells #[.int .u8 6, .slice a2 n2 c2, .slice b2 m2 d2] 45)) ((w3.alloc (.cells #[.int .u8 0, .slice none 0 0, .slice none 0 0] 45)).setRow w3.heap.size #[.int .u8 48, .slice none 0 0, .slice (some ⟨w2.heap.size, 0, none⟩) 1 1]) := HG3.out.trans (Below.mono (below_setRow' (Gr.alloc w3 (.cells #[.int .u8 0, .slice none 0 0, .slice none 0 0] 45)) (Nat.le_refl _) #[.int .u8 48, .slice none 0 0, .slice (some ⟨w2.heap.size, 0, none⟩) 1 1]) (by simp only [World.size_alloc]; omega))
  have hgk : KdAt B0 (w.heap.size + 2) w3.heap.size 48 (.node 6 (oidB (ouri [2100, v])) .nil .nil) ((w3.alloc (.cells #[.int .u8 0, .slice none 0 0, .slice none 0 0] 45)).setRow w3.heap.size #[.int .u8 48, .slice none 0 0, .slice (some ⟨w2.heap.size, 0, none⟩) 1 1]) := by
    refine ⟨_, 1, 1, _, HZ3.out.setRow [.int .u8 48, .slice none 0 0, .slice (some ⟨w2.heap.size, 0, none⟩) 1 1], rfl, own_below (World.ownsRow_lit (base := w.heap.size + 2) (e := 45) (size := 3) w2 #[.int .u8 6, .slice a2 n2 c2, .slice b2 m2 d2] 1 (by omega) (by decide) rfl) hg24, by simp [ob, Value.ownBlock]; omega, ?_⟩
    have h5 := dep_cons HN2.out HM2.out HD2.out.self (dep_its0 (D := NoD))
    have h6 := (h5.mono (E := fun j => j < w2.heap.size ∧ w.heap.size + 2 ≤ j) (fun j hj _ => by rcases hj with ⟨hj | hj, hl⟩ | hj; exact hj.elim; exact ⟨hl, by omega⟩; exact hj.elim)).below ((Gr.alloc w2 (.cells #[.int .u8 6, .slice a2 n2 c2, .slice b2 m2 d2] 45)).trans hg24)
    exact h6.mono (fun j hj _ => ⟨.inr hj.2, by omega, by simp [ob, Value.ownBlock]; omega⟩)
  have hg04 : Gr W0 ((w3.alloc (.cells #[.int .u8 0, .slice none 0 0, .slice none 0 0] 45)).setRow w3.heap.size #[.int .u8 48, .slice none 0 0, .slice (some ⟨w2.heap.size, 0, none⟩) 1 1]) := HG2.out.trans (Below.mono ((Gr.alloc w2 (.cells #[.int .u8 6, .slice a2 n2 c2, .slice b2 m2 d2] 45)).trans hg24) hs2)
  obtain ⟨W4, hW4⟩ : ∃ W4, (w3.alloc (.cells #[.int .u8 0, .slice none 0 0, .slice none 0 0] 45)).setRow w3.heap.size #[.int .u8 48, .slice none 0 0, .slice (some ⟨w2.heap.size, 0, none⟩) 1 1] = W4 := ⟨_, rfl⟩
  rw [hW4]
  rw [hW4] at hgk hg04
  obtain ⟨gi, hgi⟩ : ∃ gi, w3.heap.size = gi := ⟨_, rfl⟩
  have HGB := Lib.hid (show w.heap.size + 2 ≤ gi by omega)
  have HSB := Lib.hid (show w.heap.size + 2 ≤ W4.heap.size from Nat.le_trans hs20 hg04.size)
  rw [hgi] at hgk
  rw [hgi]
  have HKA := Lib.hid hgk
  have HBX4 := Lib.hid (HBX.out.below' hg04)
  have HRS4 := Lib.hid (HRS.out.below' hg04)
  have HV4 := Lib.hid (HV.out.below hg04)
  have H04 := Lib.hid (H00.out.trans (Below.mono hg04 H00.out.size))
  clear hg24 hgk hg04 hs3 hs2 hs20 hW4 hgi HN2 HM2 HD2 HG2 HG3 HZ3 HOB HBX HRS HV H00 k0
  have k1 := blkc HBX4.out (i := 1) rfl
  have HSB4 := HSB
  have k2 := blkc HBX4.out (i := 2) rfl
  obtain ⟨ka, kn, kc, vs, hbi, hgk⟩ := HKA.out
  have HBI := Lib.hid hbi
  have HGK := Lib.hid hgk
  have HKL := Lib.hid (show kn ≤ 100 from by have := hgk.1; simp [Tr.len, Tr.app] at this; omega)
  have HS0 := Lib.hid (Nat.le_refl W4.heap.size)
  have HSB := HSB4
  have kk := blkc hbi (i := 2) rfl
  clear hbi hgk HKA
  go_upto_region 4 with (fail)
  refine wp_region_L (fun w_ => Below W4.heap.size W4 w_) [6, 8] [0, 2, 7, 8] (by kernel_rfl) (Below.refl _ _).drew ?_
  refine wpAnyL_pure (fun _ _ hS_ hb_ => gr_bel hS_ hb_) (i := 0) rfl (by kernel_rfl) (fun _ _ _ h => h) (pureG (by rfl) (by intro w_; go_simp; first | done | with_reducible rfl)) ?_
  try simp only [Act.put, List.getElem_toArray, List.getElem_cons_succ, List.getElem_cons_zero, List.setIfInBounds_toArray, List.set_cons_zero, List.set_cons_succ]
  refine wpAnyL_pure (fun _ _ hS_ hb_ => gr_bel hS_ hb_) (i := 2) rfl (by kernel_rfl) (fun _ _ _ h => h) (pureG (by rfl) (by intro w_; go_simp; first | done | with_reducible rfl)) ?_
  try simp only [Act.put, List.getElem_toArray, List.getElem_cons_succ, List.getElem_cons_zero, List.setIfInBounds_toArray, List.set_cons_zero, List.set_cons_succ]
  refine wpAnyL_take (fun _ _ hS_ hb_ => gr_bel hS_ hb_) (i := 1) rfl (by kernel_rfl) (fun _ _ _ h => h) (worldG (by rfl) (by intro w_ hS_; have q := (hS_.cell (World.block_lt_of_cell? W4 _ kk)).trans kk; go_simp; first | done | with_reducible rfl)) ?_
  try simp only [Act.put, List.getElem_toArray, List.getElem_cons_succ, List.getElem_cons_zero, List.setIfInBounds_toArray, List.set_cons_zero, List.set_cons_succ]
  refine wpAnyL_take (fun _ _ hS_ hb_ => gr_bel hS_ hb_) (i := 3) rfl (by kernel_rfl) (fun _ _ _ h => h) (worldG (by rfl) (by intro w_ hS_; have q := (hS_.cell (World.block_lt_of_cell? W4 _ k2)).trans k2; go_simp; first | done | with_reducible rfl)) ?_
  try simp only [Act.put, List.getElem_toArray, List.getElem_cons_succ, List.getElem_cons_zero, List.setIfInBounds_toArray, List.set_cons_zero, List.set_cons_succ]
  refine wpAnyL_one (i := 4) (by kernel_rfl) (by decide) fun V7 hv7 hS7 => ?_
  have HSV7 : W4.heap.size ≤ V7.heap.size := by { have h1 := hS7.size; have h2 := HS0.out; omega }
  replace HV4 := Lib.hid (HV4.out.below hS7)
  refine wpOp_callE (i := 4) rfl (by rfl) rfl Tryz.func88 (by kernel_rfl) (by kernel_rfl) #[.int .u8 4, .slice a n c] (by simp [Act.eval]) ((itO (B0 := B0) (base := W4.heap.size) (rplain_d (fun j => j < B0) 4 4 rfl (by decide) V7 a n c l HN.out HNN.out HV4.out) HSV7 (fun _ h => .inl h)).mono ?_)
  rintro e w7 ⟨a7, n7, c7, b7, m7, d7, hn7, hm7, rfl, hd7, hb7⟩
  have HN7 := Lib.hid hn7; have HM7 := Lib.hid hm7; clear hn7 hm7
  replace HV4 := Lib.hid (HV4.out.below hb7)
  have HD7 := Lib.hid hd7; clear hd7
  refine ⟨_, rfl, Gr.trans hS7 hb7, ?_⟩
  try simp only [Act.put, List.getElem_toArray, List.getElem_cons_succ, List.getElem_cons_zero, List.setIfInBounds_toArray, List.set_cons_zero, List.set_cons_succ]
  refine wpAnyL_one (i := 5) (by kernel_rfl) (by decide) fun V8 hv8 hS8 => ?_
  have HSV8 : W4.heap.size ≤ V8.heap.size := by { have h1 := hS8.size; have h2 := HS0.out; omega }
  replace HV4 := Lib.hid (HV4.out.below hv8)
  replace HD7 := Lib.hid (HD7.out.below hv8)
  refine wpOp_run (i := 5) (v := .slice (some ⟨V8.heap.size, 0, none⟩) 1 1) (W2 := V8.alloc (.cells #[.int .u8 4, .slice a7 n7 c7, .slice b7 m7 d7] 45)) rfl (by rfl) (by go_simp; first | done | rfl) ?_
  refine ⟨hS8.alloc hS8.size _, ?_⟩
  try simp only [Act.put, List.getElem_toArray, List.getElem_cons_succ, List.getElem_cons_zero, List.setIfInBounds_toArray, List.set_cons_zero, List.set_cons_succ]
  replace HV4 := Lib.hid (HV4.out.below (Gr.alloc V8 (.cells #[.int .u8 4, .slice a7 n7 c7, .slice b7 m7 d7] 45)))
  replace HD7 := Lib.hid (HD7.out.below (Gr.alloc V8 (.cells #[.int .u8 4, .slice a7 n7 c7, .slice b7 m7 d7] 45)))
  refine wpAnyL_oneD (i := 6) (by kernel_rfl) (by decide) (by decide) (by kernel_rfl) (by decide) fun W10 hg10 hS10 => ?_
  have hnews := fun j u hu => ((hg10.cell (World.block_lt_of_cell? _ _ (news_lit V8 45 [.int .u8 4, .slice a7 n7 c7, .slice b7 m7 d7] j u hu))).trans (news_lit V8 45 [.int .u8 4, .slice a7 n7 c7, .slice b7 m7 d7] j u hu))
  replace HD7 := Lib.hid (HD7.out.below hg10)
  obtain ⟨i25, hi25, hz25, hs25, hy25⟩ := info_parts info25z
  refine wpOp_append_lies (i := 6) rfl (by rfl) _ _ 43 rfl (w.heap.size + 2) 45 i25 _ 3 56 Tryz.underlying43 hi25 hz25 hs25 hy25 rfl (by decide) (.slice ka kn kc) kn vs rfl (own_below HGK.out.2.1 hS10) ⟨V8.heap.size, 0, none⟩ 1 1 [.int .u8 4, .slice a7 n7 c7, .slice b7 m7 d7] rfl rfl hnews (all1_item _ _ _ _ _ _ _) (by decide) (by have := HKL.out; simp only [maxLen]; omega) (by have := HKL.out; omega) (by have h1 := hS10.size; have h2 := HSB.out; omega) fun g5 cap5 W11 hown5 hg5 hat5 hlt5 => ?_
  try simp only [Act.put, List.getElem_toArray, List.getElem_cons_succ, List.getElem_cons_zero, List.setIfInBounds_toArray, List.set_cons_zero, List.set_cons_succ]
  refine wpAnyL_pure (fun _ _ hS_ hb_ => gr_bel hS_ hb_) (i := 7) rfl (by kernel_rfl) (fun _ _ _ h => h) (pureG (by rfl) (by intro w_; go_simp; first | done | with_reducible rfl)) ?_
  try simp only [Act.put, List.getElem_toArray, List.getElem_cons_succ, List.getElem_cons_zero, List.setIfInBounds_toArray, List.set_cons_zero, List.set_cons_succ]
  have hB11 := (HBI.out.below' hS10).of (hg5.block (gi) (HBI.out.below' hS10).lt (fun e => HGK.out.2.2.1 (by rw [ob, ← e]; simp)))
  refine wpAnyL_cell (i := 8) (g := gi) (x := 2) (t := 45) (u := .slice (some ⟨g5, 0, none⟩) (kn + 1) cap5) (by kernel_rfl) (by kernel_rfl) rfl (by decide) (by kernel_rfl) (by decide) hB11 (by simp) (stS (by rfl) rfl rfl rfl) ?_
  intro W12 hg12 hb12
  try simp only [Act.put, List.getElem_toArray, List.getElem_cons_succ, List.getElem_cons_zero, List.setIfInBounds_toArray, List.set_cons_zero, List.set_cons_succ]
  have hob := own_ob_lt HGK.out.2.1
  have hpu := GrowK.push HGK.out HN7.out HM7.out hS10 HD7.out (fun j hj hl => by have h1 := HGB.out; have h2 := HB.out; have h3 := HBI.out.lt; rcases hj with hj | hj; exact ⟨.inl hj, by omega, fun hx => by have := (hob j hx).1; omega⟩; exact ⟨.inr (by have := HSB.out; omega), by omega, fun hx => by have := (hob j hx).2; omega⟩) hg5 HBI.out.lt (Nat.le_refl _) hat5 hown5
  have hkp : ∀ j, j < w.heap.size + 2 → j ≠ gi → W12.heap[j]? = W4.heap[j]? := fun j hj hne => (hg12.block j (by have h1 := hg5.size; have h2 := hS10.size; have h3 := HSB.out; omega) (fun e => by injection e with e; exact hne e)).trans ((hg5.block j (by have h2 := hS10.size; have h3 := HSB.out; omega) (fun e => by have h4 := (hob j (by rw [ob, ← e]; simp)).1; omega)).trans (hS10.block j (by have h3 := HSB.out; omega)))
  have HBW2 := Lib.hid (show Below (w.heap.size + 2) W4 W12 from ⟨hg12.os.trans (hg5.os.trans hS10.os), hg12.tape.trans (hg5.tape.trans hS10.tape), hg12.output.trans (hg5.output.trans hS10.output), Nat.le_trans hS10.size (Nat.le_trans hg5.size hg12.size), fun j hj => hkp j hj (fun e => by have h5 := HGB.out; omega)⟩)
  have HKA := Lib.hid (show KdAt B0 (w.heap.size + 2) (gi) 48 _ W12 from ⟨_, _, _, _, hb12, hpu.cellK hg12⟩)
  clear hnews hB11 hpu hown5 hg5 hat5 hlt5 hg12 hb12 hg10 hS10 hkp hob hi25 hz25 hs25 hy25
  have HRS6 := Lib.hid (HRS4.out.below HBW2.out (by omega))
  have H06 := Lib.hid (H04.out.trans (Below.mono HBW2.out (by omega)))
  obtain ⟨ka9, kn9, kc9, hl9, hb9, hk9⟩ := KdAt.kin HKA.out (by simp [Tr.len, Tr.app])
  have HBI9 := Lib.hid hb9
  have HL9 := Lib.hid hl9
  have HK9 := Lib.hid hk9
  clear hb9 hl9 hk9 HKA
  go_wp2_with (first
    | (refine wpList_load_row (P := Tryz.prog) rfl 45 (.tmp 3) rfl gi rfl 45 _ _ _ HBI9.out Tryz.underlying45 rfl info25 ?_)
    | (refine wpList_store_row (P := Tryz.prog) rfl 45 (.tmp 2) (.tmp 26) rfl (w.heap.size + 1) #[.int .u8 48, .slice none 0 0, .slice ka9 kn9 kc9] rfl rfl 45 _ HRS6.out info25 rfl (all_item _ _ _ _ _ _ _) ?_))
  refine bodyPost_ret (results_one Tryz.results48 _ _ (w.heap.size + 1) 45 _ (0, 0) _ rfl (HRS6.out.setRow [.int .u8 48, .slice none 0 0, .slice ka9 kn9 kc9]) Tryz.underlying45 rfl info25) rfl ?_
  exact ⟨none, 0, 0, ka9, kn9, kc9, rfl, HL9.out, rfl, (((HK9.out.row (w.heap.size + 1) #[.int .u8 48, .slice none 0 0, .slice ka9 kn9 kc9] (fun h => by have := HB.out; rcases h.1 with h | h <;> omega)).map (fun x hx => (⟨by decide, bin_empty x none 0 (by simp [maxLen]) (fun _ => rfl), hx⟩ : ItIn x 48 none 0 ka9 kc9 [] (extK v false l)))).mono (fun j hj _ => by rcases hj.1 with h | h; exact .inl h; exact .inr (by omega))), below_setRow' H06.out (by omega) _⟩
theorem rext_k (w : World) (v : Nat) (cr : Bool) (h1 : 1 ≤ v) (h2 : v ≤ 2147483647) (l : List Nat) (a : Option Addr) (n c : Nat) (hn : l.length = n) (hn2 : n ≤ 140737488355328) (B0 : Nat) (hB : B0 ≤ w.heap.size) (hv : Dep (fun j => j < B0) w (fun W => BIn W a n c l)) :
    Calls Tryz.prog 48 #[.agg #[.int .i64 (v : Nat), .bool cr, .slice a n c]] w (ItR (fun j => j < B0) 48 [] (extK v cr l) w) := by
  cases cr with
  | true => exact rext_true w v h1 h2 l a n c hn hn2 B0 hB hv
  | false => exact rext_false w v h1 h2 l a n c hn hn2 B0 hB hv
end Go.Proofs.YtbabpmncdphnjaaGreat
