/- Parts of proofs of statements, each text behind those that it stands on. No condition of its own. -/
import Derived.Test.YtbabpmncdphnjaaGreatQ27
import Derived.Test.YtbabpmncdphnjaaGreatQ28
import Derived.Test.YtbabpmncdphnjaaGreatQ29
import Derived.Test.YtbabpmncdphnjaaGreatQ30
namespace Go.Proofs.YtbabpmncdphnjaaGreat
open Go.RowKit
set_option linter.unusedVariables false
set_option maxRecDepth 100000
set_option linter.unusedSimpArgs false
theorem renc_any {t : Nat} {b : List Nat} {k : Tr} {R : Except Nat (List Nat)} (h : encE t b k = R) {w : World} {a : Option Addr} {c : Nat} {a' : Option Addr} {c' n m : Nat} (hin : ItIn w t a c a' c' b k) (hn : b.length = n) (hm : k.len = m) (hbd : 1 + b.length + k.sz ≤ 20000000) {ti : Int} (hti : (t : Int) = ti := by rfl) :
    Calls Tryz.prog 29 #[.agg #[.int .u8 ti, .slice a n c, .slice a' m c']] w (EncIs R w) := by
  subst hn hm hti h
  exact refEnc_any w t b k a c a' c' hin hbd
theorem EncIs.bel {R : Except Nat (List Nat)} {w : World} {e : Ending} {w' : World} (h : EncIs R w e w') : ∃ a n c x, e = .returned (.tuple #[.slice a n c, .int .i64 x]) ∧ Below w.heap.size w w' ∧ ((∃ l, R = .ok l ∧ n = l.length ∧ x = 0 ∧ BIn w' a n c l) ∨ ∃ q : Nat, R = .error q ∧ a = none ∧ n = 0 ∧ c = 0 ∧ x = q) := by
  cases R with
  | ok l => obtain ⟨hb, a, c, h1, h2⟩ := h; exact ⟨a, _, c, 0, h1, hb, .inl ⟨l, rfl, rfl, rfl, h2⟩⟩
  | error q => exact ⟨none, 0, 0, q, h.2, h.1, .inr ⟨q, rfl, rfl, rfl, rfl, rfl⟩⟩
theorem BytIs.of {R S : Except Nat (List Nat)} {a : Option Addr} {n c : Nat} {x : Int} {w w1 w' : World} (hS : S = R) (hne : ∀ q, R = .error q → q ≠ 0) (hb : Below w.heap.size w w') (hg : Gr w1 w') (h : (∃ l, R = .ok l ∧ n = l.length ∧ x = 0 ∧ BIn w1 a n c l) ∨ ∃ q : Nat, R = .error q ∧ a = none ∧ n = 0 ∧ c = 0 ∧ x = q) : BytIs S w (.returned (.tuple #[.slice a n c, .int .i64 x])) w' := by
  subst hS
  rcases h with ⟨l, h1, h2, h3, h4⟩ | ⟨q, h1, h2, h3, h4, h5⟩
  · subst h2 h3; exact BytIs.good h1 hb (h4.below hg)
  · subst h2 h3 h4 h5; exact BytIs.bad h1 (hne q h1) hb
set_option maxRecDepth 100000 in
set_option maxHeartbeats 16000000 in
theorem rSigned_any (w : World) (sn : Nat) (hsn : sn < 18446744073709551616) (is su : ByteArray) (ib sb : List Nat) (hib : strL is = ib) (hsb : strL su = sb) (his : is.size ≤ 140737488355328) (hsu : su.size ≤ 140737488355328) (ka : Option Addr) (kn kc : Nat) (kb : List Nat) (hk : BIn w ka kn kc kb) (xa : Option Addr) (n xc : Nat) (xs : List XV) (hx : XIn w xa n xc xs) (sa : Option Addr) (sl sc : Nat) (sg : List Nat) (hs : BIn w sa sl sc sg) (hbd : lkQ ib sb kn xs = 0 → 1 + (tbsK sn ib sb kb (exT xs)).sz ≤ 20000000) :
    Calls Tryz.prog 15 #[certV sn is su ka kn kc xa n xc sa sl sc] w (BytIs (signE sn ib sb kn kb xs) w) := by
  have h00 := (Below.refl _ w).alloc (Nat.le_refl _) (.cells #[.int .u64 (sn : Nat), .string is, .string su, .slice ka kn kc, .slice xa n xc, .slice sa sl sc] 26)
  have HBX := Lib.hid (Blk.new w 26 [.int .u64 (sn : Nat), .string is, .string su, .slice ka kn kc, .slice xa n xc, .slice sa sl sc])
  have HVV := Lib.hid (rvalues_any (w.alloc (.cells #[.int .u64 (sn : Nat), .string is, .string su, .slice ka kn kc, .slice xa n xc, .slice sa sl sc] 26)) sn is su ka kn kc xa n xc sa sl sc ib sb xs false hib hsb (hx.below h00) hk.1.2.1 hs.1.2.1)
  have H00 := Lib.hid h00
  rw [show vQ ib sb kn xs false sl = lkQ ib sb kn xs from by unfold vQ; rw [if_neg (by simp)]] at HVV
  by_cases hq : lkQ ib sb kn xs = 0
  · rw [hq] at HVV
    obtain ⟨⟨_, _, h2017, h16⟩, hc2, _, _⟩ := lk_all hq
    have HKB := Lib.hid (show kn ≤ 140737488351232 by omega)
    have HN16 := Lib.hid (show n ≤ 16 by have := hx.1; omega)
    have HCC := Lib.hid hc2
    have HR := Lib.hid (show signE sn ib sb kn kb xs = encE 48 [] (tbsK sn ib sb kb (exT xs)) by unfold signE; rw [if_neg (fun h => h hq)])
    have HBD := Lib.hid (show 1 + ([] : List Nat).length + (tbsK sn ib sb kb (exT xs)).sz ≤ 20000000 from by have h := hbd hq; simpa using h)
    have HK := Lib.hid hk
    have HX := Lib.hid hx
    have HI := Lib.hid hib
    have HSB := Lib.hid hsb
    have HIS := Lib.hid his
    have HSU := Lib.hid hsu
    have HSN := Lib.hid hsn
    clear hc2 h2017 h16 h00 hk hib hsb his hsu hsn hx hs hq hbd
    go_enter Tryz.func15, Tryz.ntmps15
    generalize hW0 : w.alloc (.cells #[.int .u64 (sn : Nat), .string is, .string su, .slice ka kn kc, .slice xa n xc, .slice sa sl sc] 26) = W0 at *
    go_wp2_with (first
      | (refine wpList_load_row (P := Tryz.prog) rfl 26 (.tmp 1) rfl w.heap.size rfl 26 _ _ _ HBX.out Tryz.underlying26 rfl info55 ?_)
      | (go_at_call 28; go_loud ((with_reducible refine HVV.out.mono ?_); rintro e w2 ⟨rfl, hb2⟩; have HBX := Lib.hid (HBX.out.below' hb2); have H02 := Lib.hid (H00.out.trans (Below.mono hb2 H00.out.size)); clear hb2))
      | (go_at_call 25; go_loud ((with_reducible refine (rtbs_k w w2 H02.out sn HSN.out is su ib sb HI.out HSB.out HIS.out HSU.out ka kn kc kb (HK.out.below H02.out) HKB.out xa n xc xs HX.out HN16.out HCC.out sa sl sc).mono ?_); rintro e w3 ⟨a3, n3, c3, b3, m3, d3, hn3, hm3, rfl, hd3, hb3⟩; have HN3 := Lib.hid hn3; have HM3 := Lib.hid hm3; have HD3 := Lib.hid hd3.now; have H03 := Lib.hid (H02.out.trans (Below.mono hb3 H02.out.size)); clear hn3 hm3 hd3 hb3))
      | (go_at_call 29; go_loud ((with_reducible refine (renc_any rfl HD3.out HN3.out HM3.out HBD.out rfl).mono ?_); intro e w4 he4; obtain ⟨a4, n4, c4, x4, rfl, hb4, hr4⟩ := EncIs.bel he4; have HR4 := Lib.hid hr4; have H04 := Lib.hid (H03.out.trans (Below.mono hb4 H03.out.size)); clear hr4 hb4 he4)))
    go_ret2
    exact BytIs.of HR.out (fun q h => encE_err0 h) H04.out (Gr.refl _) HR4.out
  · have HQ := Lib.hid hq
    have hqi : ¬ ((lkQ ib sb kn xs : Nat) : Int) = 0 := by omega
    obtain ⟨q, hqe⟩ : ∃ q, lkQ ib sb kn xs = q := ⟨_, rfl⟩
    have HR := Lib.hid (show signE sn ib sb kn kb xs = .error q by unfold signE; rw [if_pos hq, hqe])
    rw [hqe] at HVV hqi HQ
    clear h00 hk hib hsb his hsu hsn hx hs hq hbd hqe
    go_enter Tryz.func15, Tryz.ntmps15
    generalize hW0 : w.alloc (.cells #[.int .u64 (sn : Nat), .string is, .string su, .slice ka kn kc, .slice xa n xc, .slice sa sl sc] 26) = W0 at *
    go_wp2_with (first
      | (refine wpList_load_row (P := Tryz.prog) rfl 26 (.tmp 1) rfl w.heap.size rfl 26 _ _ _ HBX.out Tryz.underlying26 rfl info55 ?_)
      | (go_at_call 28; go_loud ((with_reducible refine HVV.out.mono ?_); rintro e w2 ⟨rfl, hb2⟩; have H02 := Lib.hid (H00.out.trans (Below.mono hb2 H00.out.size)); clear hb2)))
    go_ret2
    exact BytIs.bad HR.out HQ.out H02.out
set_option maxRecDepth 100000 in
set_option maxHeartbeats 16000000 in
theorem rBytes_any (w : World) (sn : Nat) (hsn : sn < 18446744073709551616) (is su : ByteArray) (ib sb : List Nat) (hib : strL is = ib) (hsb : strL su = sb) (his : is.size ≤ 140737488355328) (hsu : su.size ≤ 140737488355328) (ka : Option Addr) (kn kc : Nat) (kb : List Nat) (hk : BIn w ka kn kc kb) (xa : Option Addr) (n xc : Nat) (xs : List XV) (hx : XIn w xa n xc xs) (sa : Option Addr) (sl sc : Nat) (sg : List Nat) (hs : BIn w sa sl sc sg) (hsl : sl ≤ 140737488351232) (hbd : lkQ ib sb kn xs = 0 → sl = 3373 → 1 + (crtK sn ib sb kb sg (exT xs)).sz ≤ 20000000) :
    Calls Tryz.prog 16 #[certV sn is su ka kn kc xa n xc sa sl sc] w (BytIs (bytesE sn ib sb kn kb xs sl sg) w) := by
  have h00 := (Below.refl _ w).alloc (Nat.le_refl _) (.cells #[.int .u64 (sn : Nat), .string is, .string su, .slice ka kn kc, .slice xa n xc, .slice sa sl sc] 26)
  have HBX := Lib.hid (Blk.new w 26 [.int .u64 (sn : Nat), .string is, .string su, .slice ka kn kc, .slice xa n xc, .slice sa sl sc])
  have HVV := Lib.hid (rvalues_any (w.alloc (.cells #[.int .u64 (sn : Nat), .string is, .string su, .slice ka kn kc, .slice xa n xc, .slice sa sl sc] 26)) sn is su ka kn kc xa n xc sa sl sc ib sb xs true hib hsb (hx.below h00) hk.1.2.1 hs.1.2.1)
  have H00 := Lib.hid h00
  by_cases hq : vQ ib sb kn xs true sl = 0
  · have hq0 : sl = 3373 ∧ lkQ ib sb kn xs = 0 := by
      unfold vQ at hq
      by_cases h : sl = 3373
      · rw [if_neg (fun h2 => h2.2 h)] at hq; exact ⟨h, hq⟩
      · rw [if_pos ⟨rfl, h⟩] at hq; cases hq
    rw [hq] at HVV
    obtain ⟨⟨_, _, h2017, h16⟩, hc2, _, _⟩ := lk_all hq0.2
    have HKB := Lib.hid (show kn ≤ 140737488351232 by omega)
    have HN16 := Lib.hid (show n ≤ 16 by have := hx.1; omega)
    have HCC := Lib.hid hc2
    have HR := Lib.hid (show bytesE sn ib sb kn kb xs sl sg = encE 48 [] (crtK sn ib sb kb sg (exT xs)) by unfold bytesE; rw [if_neg (fun h => h hq0.1), if_neg (fun h => h hq0.2)])
    have HBD := Lib.hid (show 1 + ([] : List Nat).length + (crtK sn ib sb kb sg (exT xs)).sz ≤ 20000000 from by have h := hbd hq0.2 hq0.1; simpa using h)
    have HK := Lib.hid hk
    have HSG := Lib.hid hs
    have HX := Lib.hid hx
    have HI := Lib.hid hib
    have HSB := Lib.hid hsb
    have HIS := Lib.hid his
    have HSU := Lib.hid hsu
    have HSN := Lib.hid hsn
    have HSL := Lib.hid hsl
    clear hc2 h2017 h16 h00 hk hib hsb his hsu hsn hx hs hq hbd hq0 hsl
    go_enter Tryz.func16, Tryz.ntmps16
    generalize hW0 : w.alloc (.cells #[.int .u64 (sn : Nat), .string is, .string su, .slice ka kn kc, .slice xa n xc, .slice sa sl sc] 26) = W0 at *
    go_upto_region 4 with (first
      | (refine wpList_load_row (P := Tryz.prog) rfl 26 (.tmp 1) rfl w.heap.size rfl 26 _ _ _ HBX.out Tryz.underlying26 rfl info55 ?_)
      | (go_at_call 28; go_loud ((with_reducible refine HVV.out.mono ?_); rintro e w2 ⟨rfl, hb2⟩; have HBX := Lib.hid (HBX.out.below' hb2); have H02 := Lib.hid (H00.out.trans (Below.mono hb2 H00.out.size)); clear hb2)))
    have HSG2 := Lib.hid (HSG.out.below H02.out)
    have k5 := blkc HBX.out (i := 5) rfl
    have HS0 := Lib.hid (Nat.le_refl w2.heap.size)
    refine wp_region_L (fun w_ => Below w2.heap.size w2 w_) [] [3, 9, 10, 11, 12] (by kernel_rfl) (Below.refl _ _).drew ?_
    refine wpAnyL_pure (fun _ _ hS_ hb_ => gr_bel hS_ hb_) (i := 3) rfl (by kernel_rfl) (fun _ _ _ h => h) (pureG (by rfl) (by intro w_; go_simp; first | done | with_reducible rfl)) ?_
    try simp only [Act.put, List.getElem_toArray, List.getElem_cons_succ, List.getElem_cons_zero, List.setIfInBounds_toArray, List.set_cons_zero, List.set_cons_succ]
    refine wpAnyL_take (fun _ _ hS_ hb_ => gr_bel hS_ hb_) (i := 4) rfl (by kernel_rfl) (fun _ _ _ h => h) (worldG (by rfl) (by intro w_ hS_; have q := (hS_.cell (World.block_lt_of_cell? w2 _ k5)).trans k5; go_simp; first | done | with_reducible rfl)) ?_
    try simp only [Act.put, List.getElem_toArray, List.getElem_cons_succ, List.getElem_cons_zero, List.setIfInBounds_toArray, List.set_cons_zero, List.set_cons_succ]
    refine wpAnyL_take (fun _ _ hS_ hb_ => gr_bel hS_ hb_) (i := 0) rfl (by kernel_rfl) (fun _ _ _ h => h) (loadG (by rfl) _ _ rfl w.heap.size 0 rfl [.int .u64 (sn : Nat), .string is, .string su, .slice ka kn kc, .slice xa n xc, .slice sa sl sc] _ (fun w_ hS_ => rangeAt_below (blk_all6 HBX.out) hS_) Tryz.underlying26 rfl info55) ?_
    try simp only [Act.put, List.getElem_toArray, List.getElem_cons_succ, List.getElem_cons_zero, List.setIfInBounds_toArray, List.set_cons_zero, List.set_cons_succ]
    refine wpAnyL_one (i := 1) (by kernel_rfl) (by decide) fun V3 hv3 hS3 => ?_
    have HSV3 : w2.heap.size ≤ V3.heap.size := by { have h1 := hS3.size; have h2 := HS0.out; omega }
    replace HSG2 := Lib.hid (HSG2.out.below hS3)
    refine wpOp_callE (i := 1) rfl (by rfl) rfl Tryz.func25 (by kernel_rfl) (by kernel_rfl) #[certV sn is su ka kn kc xa n xc sa sl sc] (by simp [Act.eval]) ((itO (B0 := w.heap.size) (base := w2.heap.size) (rtbs_k w V3 (H02.out.trans (Below.mono hS3 H02.out.size)) sn HSN.out is su ib sb HI.out HSB.out HIS.out HSU.out ka kn kc kb (HK.out.below (H02.out.trans (Below.mono hS3 H02.out.size))) HKB.out xa n xc xs HX.out HN16.out HCC.out sa sl sc) HSV3 (fun _ h => .inl h)).mono ?_)
    rintro e w3 ⟨a3, n3, c3, b3, m3, d3, hn3, hm3, rfl, hd3, hb3⟩
    have HN3 := Lib.hid hn3; have HM3 := Lib.hid hm3; clear hn3 hm3
    replace HSG2 := Lib.hid (HSG2.out.below hb3)
    have HD3 := Lib.hid hd3; clear hd3
    refine ⟨_, rfl, Gr.trans hS3 hb3, ?_⟩
    try simp only [Act.put, List.getElem_toArray, List.getElem_cons_succ, List.getElem_cons_zero, List.setIfInBounds_toArray, List.set_cons_zero, List.set_cons_succ]
    refine wpAnyL_one (i := 2) (by kernel_rfl) (by decide) fun V4 hv4 hS4 => ?_
    have HSV4 : w2.heap.size ≤ V4.heap.size := by { have h1 := hS4.size; have h2 := HS0.out; omega }
    replace HSG2 := Lib.hid (HSG2.out.below hv4)
    replace HD3 := Lib.hid (HD3.out.below hv4)
    refine wpOp_callE (i := 2) rfl (by rfl) rfl Tryz.func26 (by kernel_rfl) (by kernel_rfl) #[] (by simp [Act.eval]) ((itO (B0 := w.heap.size) (base := w2.heap.size) (ralg_d V4) HSV4 (fun _ h => h.elim)).mono ?_)
    rintro e w4 ⟨a4, n4, c4, b4, m4, d4, hn4, hm4, rfl, hd4, hb4⟩
    have HN4 := Lib.hid hn4; have HM4 := Lib.hid hm4; clear hn4 hm4
    replace HSG2 := Lib.hid (HSG2.out.below hb4)
    replace HD3 := Lib.hid (HD3.out.below hb4)
    have HD4 := Lib.hid hd4; clear hd4
    refine ⟨_, rfl, Gr.trans hS4 hb4, ?_⟩
    try simp only [Act.put, List.getElem_toArray, List.getElem_cons_succ, List.getElem_cons_zero, List.setIfInBounds_toArray, List.set_cons_zero, List.set_cons_succ]
    refine wpAnyL_one (i := 5) (by kernel_rfl) (by decide) fun V5 hv5 hS5 => ?_
    have HSV5 : w2.heap.size ≤ V5.heap.size := by { have h1 := hS5.size; have h2 := HS0.out; omega }
    replace HSG2 := Lib.hid (HSG2.out.below hv5)
    replace HD3 := Lib.hid (HD3.out.below hv5)
    replace HD4 := Lib.hid (HD4.out.below hv5)
    refine wpOp_callE (i := 5) rfl (by rfl) rfl Tryz.func27 (by kernel_rfl) (by kernel_rfl) #[.slice sa sl sc] (by simp [Act.eval]) ((itO (B0 := w.heap.size) (base := w2.heap.size) (rOfBits_d V5 sg sa sl sc HSG2.out HSL.out) HSV5 (fun _ h => h.elim)).mono ?_)
    rintro e w5 ⟨a5, n5, c5, b5, m5, d5, hn5, hm5, rfl, hd5, hb5⟩
    have HN5 := Lib.hid hn5; have HM5 := Lib.hid hm5; clear hn5 hm5
    replace HSG2 := Lib.hid (HSG2.out.below hb5)
    replace HD3 := Lib.hid (HD3.out.below hb5)
    replace HD4 := Lib.hid (HD4.out.below hb5)
    have HD5 := Lib.hid hd5; clear hd5
    refine ⟨_, rfl, Gr.trans hS5 hb5, ?_⟩
    try simp only [Act.put, List.getElem_toArray, List.getElem_cons_succ, List.getElem_cons_zero, List.setIfInBounds_toArray, List.set_cons_zero, List.set_cons_succ]
    refine wpAnyL_one (i := 6) (by kernel_rfl) (by decide) fun V6 hv6 hS6 => ?_
    have HSV6 : w2.heap.size ≤ V6.heap.size := by { have h1 := hS6.size; have h2 := HS0.out; omega }
    replace HSG2 := Lib.hid (HSG2.out.below hv6)
    replace HD3 := Lib.hid (HD3.out.below hv6)
    replace HD4 := Lib.hid (HD4.out.below hv6)
    replace HD5 := Lib.hid (HD5.out.below hv6)
    refine wpOp_run (i := 6) (v := .slice (some ⟨V6.heap.size, 0, none⟩) 3 3) (W2 := V6.alloc (.cells #[.int .u8 48, .slice a3 n3 c3, .slice b3 m3 d3, .int .u8 48, .slice a4 n4 c4, .slice b4 m4 d4, .int .u8 3, .slice a5 n5 c5, .slice b5 m5 d5] 45)) rfl (by rfl) (by go_simp; first | done | rfl) ?_
    refine ⟨hS6.alloc hS6.size _, ?_⟩
    try simp only [Act.put, List.getElem_toArray, List.getElem_cons_succ, List.getElem_cons_zero, List.setIfInBounds_toArray, List.set_cons_zero, List.set_cons_succ]
    have HLT := Lib.hid (lit_o (T := crtK sn ib sb kb sg (exT xs)) (n := 3) (cons_o 48 rfl HN3.out HM3.out HD3.out (cons_o 48 rfl HN4.out HM4.out HD4.out (cons_o 3 rfl HN5.out HM5.out HD5.out dep_its0))) rfl (by decide) HSV6)
    replace HSG2 := Lib.hid (HSG2.out.below (Gr.alloc V6 (.cells #[.int .u8 48, .slice a3 n3 c3, .slice b3 m3 d3, .int .u8 48, .slice a4 n4 c4, .slice b4 m4 d4, .int .u8 3, .slice a5 n5 c5, .slice b5 m5 d5] 45)))
    replace HD3 := Lib.hid (HD3.out.below (Gr.alloc V6 (.cells #[.int .u8 48, .slice a3 n3 c3, .slice b3 m3 d3, .int .u8 48, .slice a4 n4 c4, .slice b4 m4 d4, .int .u8 3, .slice a5 n5 c5, .slice b5 m5 d5] 45)))
    replace HD4 := Lib.hid (HD4.out.below (Gr.alloc V6 (.cells #[.int .u8 48, .slice a3 n3 c3, .slice b3 m3 d3, .int .u8 48, .slice a4 n4 c4, .slice b4 m4 d4, .int .u8 3, .slice a5 n5 c5, .slice b5 m5 d5] 45)))
    replace HD5 := Lib.hid (HD5.out.below (Gr.alloc V6 (.cells #[.int .u8 48, .slice a3 n3 c3, .slice b3 m3 d3, .int .u8 48, .slice a4 n4 c4, .slice b4 m4 d4, .int .u8 3, .slice a5 n5 c5, .slice b5 m5 d5] 45)))
    refine wpAnyL_one (i := 7) (by kernel_rfl) (by decide) fun V7 hv7 hS7 => ?_
    have HSV7 : w2.heap.size ≤ V7.heap.size := by { have h1 := hS7.size; have h2 := HS0.out; omega }
    replace HLT := Lib.hid (HLT.out.below hv7)
    refine wpOp_callE (i := 7) rfl (by rfl) rfl Tryz.func24 (by kernel_rfl) (by kernel_rfl) #[.int .u8 48, .slice (some ⟨V6.heap.size, 0, none⟩) 3 3] (by simp [Act.eval]) ((itO (B0 := w.heap.size) (base := w2.heap.size) (rseq_d (FO w.heap.size w2.heap.size) 48 48 rfl (by decide) V7 _ 3 3 (crtK sn ib sb kb sg (exT xs)) rfl HLT.out) HSV7 (fun _ h => h)).mono ?_)
    rintro e w7 ⟨a7, n7, c7, b7, m7, d7, hn7, hm7, rfl, hd7, hb7⟩
    have HN7 := Lib.hid hn7; have HM7 := Lib.hid hm7; clear hn7 hm7
    replace HLT := Lib.hid (HLT.out.below hb7)
    have HD7 := Lib.hid hd7; clear hd7
    refine ⟨_, rfl, Gr.trans hS7 hb7, ?_⟩
    try simp only [Act.put, List.getElem_toArray, List.getElem_cons_succ, List.getElem_cons_zero, List.setIfInBounds_toArray, List.set_cons_zero, List.set_cons_succ]
    refine wpAnyL_one (i := 8) (by kernel_rfl) (by decide) fun V8 hv8 hS8 => ?_
    have HSV8 : w2.heap.size ≤ V8.heap.size := by { have h1 := hS8.size; have h2 := HS0.out; omega }
    replace HD7 := Lib.hid (HD7.out.below hv8)
    refine wpOp_callE (i := 8) rfl (by rfl) rfl Tryz.func29 (by kernel_rfl) (by kernel_rfl) #[itV 48 a7 n7 c7 b7 m7 d7] (by simp [Act.eval]) ((renc_any rfl HD7.out.now HN7.out HM7.out HBD.out rfl).mono ?_)
    intro e w8 he8
    obtain ⟨a8, n8, c8, x8, rfl, hb8, hr8⟩ := EncIs.bel he8
    have HR8 := Lib.hid hr8
    clear hr8 he8
    replace HD7 := Lib.hid (HD7.out.below hb8)
    refine ⟨_, rfl, Gr.trans hS8 hb8, ?_⟩
    try simp only [Act.put, List.getElem_toArray, List.getElem_cons_succ, List.getElem_cons_zero, List.setIfInBounds_toArray, List.set_cons_zero, List.set_cons_succ]
    refine wpAnyL_pure (fun _ _ hS_ hb_ => gr_bel hS_ hb_) (i := 9) rfl (by kernel_rfl) (fun _ _ _ h => h) (pureG (by rfl) (by intro w_; go_simp; first | done | with_reducible rfl)) ?_
    try simp only [Act.put, List.getElem_toArray, List.getElem_cons_succ, List.getElem_cons_zero, List.setIfInBounds_toArray, List.set_cons_zero, List.set_cons_succ]
    refine wpAnyL_pure (fun _ _ hS_ hb_ => gr_bel hS_ hb_) (i := 10) rfl (by kernel_rfl) (fun _ _ _ h => h) (pureG (by rfl) (by intro w_; go_simp; first | done | with_reducible rfl)) ?_
    try simp only [Act.put, List.getElem_toArray, List.getElem_cons_succ, List.getElem_cons_zero, List.setIfInBounds_toArray, List.set_cons_zero, List.set_cons_succ]
    refine wpAnyL_pure (fun _ _ hS_ hb_ => gr_bel hS_ hb_) (i := 11) rfl (by kernel_rfl) (fun _ _ _ h => h) (pureG (by rfl) (by intro w_; go_simp; first | done | with_reducible rfl)) ?_
    try simp only [Act.put, List.getElem_toArray, List.getElem_cons_succ, List.getElem_cons_zero, List.setIfInBounds_toArray, List.set_cons_zero, List.set_cons_succ]
    refine wpAnyL_pure (fun _ _ hS_ hb_ => gr_bel hS_ hb_) (i := 12) rfl (by kernel_rfl) (fun _ _ _ h => h) (pureG (by rfl) (by intro w_; go_simp; first | done | with_reducible rfl)) ?_
    try simp only [Act.put, List.getElem_toArray, List.getElem_cons_succ, List.getElem_cons_zero, List.setIfInBounds_toArray, List.set_cons_zero, List.set_cons_succ]
    refine wpAnyL_done (by kernel_rfl) ?_ _
    intro W9 hg9
    have HB9 := Lib.hid (H02.out.trans (Below.mono (Below.trans hS8 (Below.mono (hb8.trans (Below.mono hg9 hb8.size)) hS8.size)) H02.out.size))
    have hg89 : Gr w8 W9 := hg9
    go_wp2_with fail
    go_ret2
    exact BytIs.of HR.out (fun q h => encE_err0 h) HB9.out hg89 HR8.out
  · have HQ := Lib.hid hq
    obtain ⟨q, hqe⟩ : ∃ q, vQ ib sb kn xs true sl = q := ⟨_, rfl⟩
    have hqi : ¬ ((q : Nat) : Int) = 0 := by omega
    have HR := Lib.hid (show bytesE sn ib sb kn kb xs sl sg = .error q by
      unfold vQ at hqe hq
      unfold bytesE
      by_cases h : sl = 3373
      · rw [if_neg (fun h2 => h2.2 h)] at hqe hq
        rw [if_neg (fun h2 => h2 h), if_pos hq, hqe]
      · rw [if_pos ⟨rfl, h⟩] at hqe
        rw [if_pos h, hqe])
    rw [hqe] at HVV HQ
    clear h00 hk hib hsb his hsu hsn hx hs hq hbd hqe hsl
    go_enter Tryz.func16, Tryz.ntmps16
    generalize hW0 : w.alloc (.cells #[.int .u64 (sn : Nat), .string is, .string su, .slice ka kn kc, .slice xa n xc, .slice sa sl sc] 26) = W0 at *
    go_wp2_with (first
      | (refine wpList_load_row (P := Tryz.prog) rfl 26 (.tmp 1) rfl w.heap.size rfl 26 _ _ _ HBX.out Tryz.underlying26 rfl info55 ?_)
      | (go_at_call 28; go_loud ((with_reducible refine HVV.out.mono ?_); rintro e w2 ⟨rfl, hb2⟩; have H02 := Lib.hid (H00.out.trans (Below.mono hb2 H00.out.size)); clear hb2)))
    go_ret2
    exact BytIs.bad HR.out HQ.out H02.out
end Go.Proofs.YtbabpmncdphnjaaGreat
namespace Go.Proofs.YtbabpmncdphnjaaGreat
open Go.RowKit
set_option linter.unusedVariables false
set_option maxRecDepth 100000
set_option linter.unusedSimpArgs false
theorem info65z : (Tryz.prog.info? 67).map (fun i => (i.zero, i.size, i.bytes)) = some (some (.agg #[.int .i64 0, .bool false, .slice none 0 0]), 3, 40) := by kernel_rfl
def XIts (w : World) : List XV → List Value → Prop
  | [], vs => vs = []
  | x :: r, vs => (-9223372036854775808 ≤ x.1 ∧ x.1 ≤ 9223372036854775807) ∧ ∃ a c vr, vs = .int .i64 x.1 :: .bool x.2.1 :: .slice a x.2.2.length c :: vr ∧ BIn w a x.2.2.length c x.2.2 ∧ XIts w r vr
theorem XIts.snoc {w : World} : ∀ {xs : List XV} {vs : List Value} {y : XV} {a : Option Addr} {n c : Nat}, XIts w xs vs → (-9223372036854775808 ≤ y.1 ∧ y.1 ≤ 9223372036854775807) → y.2.2.length = n → BIn w a n c y.2.2 → XIts w (xs ++ [y]) (vs ++ [.int .i64 y.1, .bool y.2.1, .slice a n c])
  | [], vs, y, a, n, c, h, hb, hn, hi => by
    have h' : vs = [] := h
    subst h' hn
    exact ⟨hb, a, c, [], rfl, hi, rfl⟩
  | x :: r, vs, y, a, n, c, ⟨h0, a1, c1, vr, e, h1, h2⟩, hb, hn, hi => by
    subst e
    exact ⟨h0, a1, c1, _, rfl, h1, XIts.snoc h2 hb hn hi⟩
theorem XIts.row {w w' : World} (hb : Below w.heap.size w w') : ∀ {xs : List XV} {vs : List Value} {g o : Nat}, XIts w xs vs → (∀ j u, vs[j]? = some u → w'.cell? ⟨g, o + j, none⟩ = some u) → XRow w' xs g o
  | [], _, _, _, _, _ => trivial
  | x :: r, vs, g, o, ⟨h0, a, c, vr, e, h1, h2⟩, hc => by
    subst e
    refine ⟨h0, ⟨a, c, fun j v hv => ?_, h1.below hb⟩, XIts.row hb h2 (fun j u hu => by rw [Nat.add_assoc, Nat.add_comm 3 j]; exact hc (j + 3) u (by simpa using hu))⟩
    rcases j with _ | _ | _ | j
    · exact hc 0 v (by simpa using hv)
    · exact hc 1 v (by simpa using hv)
    · exact hc 2 v (by simpa using hv)
    · simp at hv
theorem own_x {w w' : World} {base g n cap : Nat} {xs : List XV} {vs : List Value} (hown : w'.ownsRow base 67 3 (.slice (some ⟨g, 0, none⟩) n cap) n vs) (hl : xs.length = n) (hn : n ≤ 140737488355328) (hb : Below w.heap.size w w') (h : XIts w xs vs) : XIn w' (some ⟨g, 0, none⟩) n cap xs := by
  obtain ⟨cur, hbl, hcl, htk, hnc, hcm, hbg⟩ := own_cur hown
  refine ⟨hl, hnc, hn, (fun h => by cases h), .inr ⟨g, 0, rfl, h.row hb (fun j u hu => ?_)⟩⟩
  rw [Nat.zero_add, hbl.cell j]
  rw [← htk, List.getElem?_take] at hu
  split at hu
  · exact hu
  · cases hu
end Go.Proofs.YtbabpmncdphnjaaGreat
namespace Go.Proofs.YtbabpmncdphnjaaGreat
open Go.RowKit
set_option linter.unusedVariables false
set_option maxRecDepth 100000
set_option linter.unusedSimpArgs false
def GrowE (base : Nat) (w : World) (v : Value) (n : Nat) (xs : List XV) (vs : List Value) : Prop :=
  w.ownsRow base 67 3 v n vs ∧ Dep (fun j => base ≤ j ∧ j ∉ ob v) w (fun x => XIts x xs vs)
theorem GrowE.push {base H n : Nat} {wr w4 w5 : World} {v : Value} {xs : List XV} {vs : List Value} (h : GrowE base wr v n xs vs) (hg4 : Gr wr w4) {y : XV} {a : Option Addr} {m c q : Nat} (hy : -9223372036854775808 ≤ y.1 ∧ y.1 ≤ 9223372036854775807) (hm : y.2.2.length = m)
    (hi : Dep (fun j => q ≤ j) w4 (fun x => BIn x a m c y.2.2)) (hq : wr.heap.size ≤ q) (hbr : base ≤ wr.heap.size) (hg : w4.grownBy w5 v.ownBlock) {g cap : Nat} (hH : w4.heap.size ≤ H) (hat : v.ownBlock = some g ∨ g = H)
    (ho : w5.ownsRow base 67 3 (.slice (some ⟨g, 0, none⟩) (n + 1) cap) (n + 1) (vs ++ [.int .i64 y.1, .bool y.2.1, .slice a m c])) :
    GrowE base w5 (.slice (some ⟨g, 0, none⟩) (n + 1) cap) (n + 1) (xs ++ [y]) (vs ++ [.int .i64 y.1, .bool y.2.1, .slice a m c]) := by
  have s2 := hg4.size
  have hgn : ∀ x, x ∈ ob (.slice (some ⟨g, 0, none⟩) (n + 1) cap) → x = g := fun x hx => by simpa [ob, Value.ownBlock] using hx
  have hvl := own_ob_lt h.1
  refine ⟨ho, ?_⟩
  have h1 : Dep (fun j => (base ≤ j ∧ j ∉ ob v) ∧ j < wr.heap.size) w5 (fun x => XIts x xs vs) :=
    h.2.self.keep (by have := hg.size; omega) (fun j hj hl => (hg.block j (by omega) (fun e => hj.1.2 (by simp [ob, ← e]))).trans (hg4.block j hl)) (fun _ h _ => h)
  have h2 : Dep (fun j => q ≤ j ∧ j < w4.heap.size) w5 (fun x => BIn x a m c y.2.2) :=
    hi.self.keep hg.size (fun j hj hl => hg.block j hl (fun e => by have := (hvl j (by simp [ob, ← e])).2; omega)) (fun _ h _ => h)
  refine ((h1.and h2).map (fun x hx => hx.1.snoc hy hm hx.2)).mono (fun j hj _ => ?_)
  have hne : (j ∉ ob v) → j < w4.heap.size → j ∉ ob (.slice (some ⟨g, 0, none⟩) (n + 1) cap) := fun h6 h7 hx => by
    have := hgn j hx
    subst this
    rcases hat with h5 | h5
    · exact h6 (by simp [ob, h5])
    · omega
  rcases hj with hj | hj
  · exact ⟨hj.1.1, hne hj.1.2 (by omega)⟩
  · exact ⟨by omega, hne (fun hx => by have := (hvl j hx).2; omega) hj.2⟩
theorem GrowE.below {base n : Nat} {w w' : World} {v : Value} {xs : List XV} {vs : List Value} (h : GrowE base w v n xs vs) (hb : Gr w w') : GrowE base w' v n xs vs := ⟨own_below h.1 hb, h.2.below hb⟩
theorem GrowE.low {base n : Nat} {w w' : World} {v : Value} {xs : List XV} {vs : List Value} (h : GrowE base w v n xs vs) {g : Nat} (hg : w.grownBy w' (some g)) (hb : g < base) : GrowE base w' v n xs vs :=
  ⟨own_keep h.1 (fun j hj => hg.block j (own_ob_lt h.1 j hj).2 (fun e => by injection e with e; have := (own_ob_lt h.1 j hj).1; omega)), h.2.keep hg.size (fun j hj hl => hg.block j hl (fun e => by injection e with e; have := hj.1; omega)) (fun _ h _ => h)⟩
theorem xin_nil (w : World) : XIn w none 0 0 [] := ⟨rfl, Nat.le_refl _, by omega, fun _ => rfl, .inl rfl⟩
theorem GrowE.xin {base n : Nat} {w : World} {a : Option Addr} {c : Nat} {xs : List XV} {vs : List Value} (h : GrowE base w (.slice a n c) n xs vs) (hl : xs.length = n) (hn : n ≤ 140737488355328) : XIn w a n c xs := by
  rcases h.1.2 with ⟨e, h0⟩ | ⟨g, cap, cur, e, rest⟩
  · injection e with e1 e2 e3
    subst e1 e3 h0
    obtain rfl : xs = [] := List.eq_nil_of_length_eq_zero hl
    exact xin_nil w
  · injection e with e1 e2 e3
    subst e1 e3
    exact own_x h.1 hl hn (Below.refl _ _) h.2.now
theorem grownG {w w' : World} {o : Obj} (h : (w.alloc o).grownBy w' (some w.heap.size)) : Gr w w' :=
  ⟨h.os, h.tape, h.output, Nat.le_trans (by simp) h.size, fun k hk => (h.block k (by simp; omega) (fun e => by injection e with e; omega)).trans (Below.heap_alloc w o k hk)⟩
set_option maxRecDepth 100000 in
set_option maxHeartbeats 16000000 in
theorem copied_any (w : World) (sn : Nat) (is su : ByteArray) (ka : Option Addr) (kn kc : Nat) (kb : List Nat) (hk : BIn w ka kn kc kb) (xa : Option Addr) (n xc : Nat) (xs : List XV) (hx : XIn w xa n xc xs) (hn : n ≤ 1048576) (sa : Option Addr) (sl sc : Nat) (sg : List Nat) (hs : BIn w sa sl sc sg) :
    Calls Tryz.prog 12 #[certV sn is su ka kn kc xa n xc sa sl sc] w fun e w' => ∃ k1 k2 x1 x2 s1 s2, e = .returned (certV sn is su k1 kn k2 x1 n x2 s1 sl s2) ∧ BIn w' k1 kn k2 kb ∧ XIn w' x1 n x2 xs ∧ BIn w' s1 sl s2 sg ∧ Below w.heap.size w w' := by
  have h00 := ((Below.refl _ w).alloc (Nat.le_refl _) (.cells #[.int .u64 (sn : Nat), .string is, .string su, .slice ka kn kc, .slice xa n xc, .slice sa sl sc] 26)).alloc (by simp) (.cells #[.int .u64 0, .string { data := #[] }, .string { data := #[] }, .slice none 0 0, .slice none 0 0, .slice none 0 0] 26)
  have HBX := Lib.hid ((Blk.new w 26 [.int .u64 (sn : Nat), .string is, .string su, .slice ka kn kc, .slice xa n xc, .slice sa sl sc]).alloc (.cells #[.int .u64 0, .string { data := #[] }, .string { data := #[] }, .slice none 0 0, .slice none 0 0, .slice none 0 0] 26))
  have HRS := Lib.hid (Blk.new2 w (.cells #[.int .u64 (sn : Nat), .string is, .string su, .slice ka kn kc, .slice xa n xc, .slice sa sl sc] 26) 26 [.int .u64 0, .string { data := #[] }, .string { data := #[] }, .slice none 0 0, .slice none 0 0, .slice none 0 0])
  have HS0 := Lib.hid (show w.heap.size + 2 ≤ ((w.alloc (.cells #[.int .u64 (sn : Nat), .string is, .string su, .slice ka kn kc, .slice xa n xc, .slice sa sl sc] 26)).alloc (.cells #[.int .u64 0, .string { data := #[] }, .string { data := #[] }, .slice none 0 0, .slice none 0 0, .slice none 0 0] 26)).heap.size by simp)
  have H00 := Lib.hid h00
  have HK := Lib.hid (hk.below h00)
  have HG := Lib.hid (hs.below h00)
  have HX := Lib.hid (hx.below h00)
  have HKN := Lib.hid hk.2.2.2.1
  have HSN := Lib.hid hs.2.2.2.1
  have HG0 := Lib.hid hs
  have HX0 := Lib.hid hx
  clear hk hs hx h00
  go_enter Tryz.func12, Tryz.ntmps12
  generalize hW0 : (w.alloc (.cells #[.int .u64 (sn : Nat), .string is, .string su, .slice ka kn kc, .slice xa n xc, .slice sa sl sc] 26)).alloc (.cells #[.int .u64 0, .string { data := #[] }, .string { data := #[] }, .slice none 0 0, .slice none 0 0, .slice none 0 0] 26) = W0 at *
  have HZO := Lib.hid (Blk.new W0 26 [.int .u64 0, .string { data := #[] }, .string { data := #[] }, .slice none 0 0, .slice none 0 0, .slice none 0 0])
  have HRO := Lib.hid ((Blk.new W0 26 [.int .u64 0, .string { data := #[] }, .string { data := #[] }, .slice none 0 0, .slice none 0 0, .slice none 0 0]).setRow [.int .u64 (sn : Nat), .string is, .string su, .slice ka kn kc, .slice xa n xc, .slice sa sl sc])
  go_upto_region 2 with (first
    | (refine wpList_load_row (P := Tryz.prog) rfl 26 (.tmp 1) rfl w.heap.size rfl 26 _ _ _ HBX.out Tryz.underlying26 rfl info55 ?_)
    | (refine wpList_store_row (P := Tryz.prog) rfl 26 (.tmp 3) (.tmp 6) rfl W0.heap.size #[.int .u64 (sn : Nat), .string is, .string su, .slice ka kn kc, .slice xa n xc, .slice sa sl sc] rfl rfl 26 _ HZO.out info55 rfl (all_cert _ _ _ _ _ _ _ _ _ _ _ _) ?_))
  have hsz1 : W0.heap.size < ((W0.alloc (.cells #[.int .u64 0, .string { data := #[] }, .string { data := #[] }, .slice none 0 0, .slice none 0 0, .slice none 0 0] 26)).setRow W0.heap.size #[.int .u64 (sn : Nat), .string is, .string su, .slice ka kn kc, .slice xa n xc, .slice sa sl sc]).heap.size := by simp
  have hg1 : Gr W0 ((W0.alloc (.cells #[.int .u64 0, .string { data := #[] }, .string { data := #[] }, .slice none 0 0, .slice none 0 0, .slice none 0 0] 26)).setRow W0.heap.size #[.int .u64 (sn : Nat), .string is, .string su, .slice ka kn kc, .slice xa n xc, .slice sa sl sc]) := below_setRow' (Gr.alloc W0 (.cells #[.int .u64 0, .string { data := #[] }, .string { data := #[] }, .slice none 0 0, .slice none 0 0, .slice none 0 0] 26)) (Nat.le_refl _) _
  obtain ⟨W1, hW1⟩ : ∃ W1, (W0.alloc (.cells #[.int .u64 0, .string { data := #[] }, .string { data := #[] }, .slice none 0 0, .slice none 0 0, .slice none 0 0] 26)).setRow W0.heap.size #[.int .u64 (sn : Nat), .string is, .string su, .slice ka kn kc, .slice xa n xc, .slice sa sl sc] = W1 := ⟨_, rfl⟩
  rw [hW1]
  rw [hW1] at HRO hsz1 hg1
  obtain ⟨gi, hgi⟩ : ∃ gi, W0.heap.size = gi := ⟨_, rfl⟩
  rw [hgi] at HRO hsz1
  rw [hgi]
  have HGI := Lib.hid (show w.heap.size + 2 ≤ gi from by have := HS0.out; omega)
  have HBX1 := Lib.hid (HBX.out.below' hg1)
  have HRS1 := Lib.hid (HRS.out.below' hg1)
  have HK1 := Lib.hid (HK.out.below hg1)
  have HG1 := Lib.hid (HG.out.below hg1)
  have HX1 := Lib.hid (HX.out.below hg1)
  have H01 := Lib.hid (H00.out.trans (Below.mono hg1 H00.out.size))
  have HSZ1 := Lib.hid hsz1
  clear hW1 hg1 hgi hsz1 hW0 HBX HRS HK HG HX H00 HZO HS0
  have k3 := blkc (HBX1.out.alloc (.cells #[] 5)) (i := 3) rfl
  have HE1 := Lib.hid (zero_own W1)
  go_wp2_with (at_builtin; refine wpList_append_bytes _ rfl (.tmp 7) (.tmp 9) rfl W1.heap.size (.slice (some ⟨W1.heap.size, 0, none⟩) 0 0) 0 [] rfl HE1.out ka kn kc kb rfl (HK1.out.below (Gr.alloc W1 _)) (by have := HKN.out; omega) (by simp) ?_)
  intro v2 w2 ho2 hg2
  try rw [Nat.zero_add, List.nil_append] at ho2
  obtain ⟨k1, k2, rfl⟩ := own_slice ho2
  have hd2 := dep_own ho2 HK1.out.1.2.2.1 HKN.out
  have hw2 : Gr W1 w2 := grownG hg2
  have HI2 := Lib.hid (HRO.out.below' hw2)
  have c3 := blkc HI2.out (i := 3) rfl
  have f3 := HI2.out.free 3
  have HKD := Lib.hid ((hd2.cell ⟨gi, 3, none⟩ (.slice k1 kn k2) (fun h => by have := HSZ1.out; have h2 : W1.heap.size ≤ gi := h; omega)))
  have HI3 := Lib.hid (HI2.out.set 3 (.slice k1 kn k2))
  simp only [List.set_cons_succ, List.set_cons_zero] at HI3
  have hg3 := grown_setCell w2 ⟨gi, 3, none⟩ (.slice k1 kn k2)
  have HOL := Lib.hid (show ∀ j, j < W1.heap.size → j ≠ gi → (w2.setCell ⟨gi, 3, none⟩ (.slice k1 kn k2)).heap[j]? = W1.heap[j]? from fun j hj hne => (hg3.block j (Nat.lt_of_lt_of_le hj hw2.size) (fun e => by injection e with e; exact hne e)).trans (hw2.block j hj))
  have H03 := Lib.hid ((H01.out.trans (Below.mono hw2 H01.out.size)).setCell (p := ⟨gi, 3, none⟩) (by have := HGI.out; simp; omega) (.slice k1 kn k2))
  have HSZ3 := Lib.hid (show W1.heap.size ≤ (w2.setCell ⟨gi, 3, none⟩ (.slice k1 kn k2)).heap.size from Nat.le_trans hw2.size hg3.size)
  clear ho2 hg2 hd2 hw2 hg3 HE1 k3
  go_upto_region 3 with (fail)
  obtain ⟨W3, hW3⟩ : ∃ W3, w2.setCell ⟨gi, 3, none⟩ (.slice k1 kn k2) = W3 := ⟨_, rfl⟩
  rw [hW3] at HKD HI3 HOL H03 HSZ3
  rw [hW3]
  clear hW3 c3 f3 HI2 HRO
  have HBX3 := Lib.hid (HBX1.out.of (HOL.out _ HBX1.out.lt (by have := HGI.out; omega)))
  have HRS3 := Lib.hid (HRS1.out.of (HOL.out _ HRS1.out.lt (by have := HGI.out; omega)))
  have k5 := blkc (HBX3.out.alloc (.cells #[] 5)) (i := 5) rfl
  have HE3 := Lib.hid (zero_own W3)
  have HG3 := Lib.hid (HG0.out.below H03.out)
  go_wp2_with (at_builtin; refine wpList_append_bytes _ rfl (.tmp 12) (.tmp 14) rfl W3.heap.size (.slice (some ⟨W3.heap.size, 0, none⟩) 0 0) 0 [] rfl HE3.out sa sl sc sg rfl (HG3.out.below (Gr.alloc W3 _)) (by have := HSN.out; omega) (by simp) ?_)
  intro v4 w4 ho4 hg4
  try rw [Nat.zero_add, List.nil_append] at ho4
  obtain ⟨s1, s2, rfl⟩ := own_slice ho4
  have hd4 := dep_own ho4 HG3.out.1.2.2.1 HSN.out
  have hw4 : Gr W3 w4 := grownG hg4
  have HI4 := Lib.hid (HI3.out.below' hw4)
  have c5 := blkc HI4.out (i := 5) rfl
  have f5 := HI4.out.free 5
  have c4 : (w4.setCell ⟨gi, 5, none⟩ (.slice s1 sl s2)).cell? ⟨gi, 4, none⟩ = some (.slice xa n xc) := blkc (HI4.out.set 5 (.slice s1 sl s2)) (i := 4) rfl
  have f4 := (HI4.out.set 5 (.slice s1 sl s2)).free 4
  have HSD := Lib.hid ((hd4.cell ⟨gi, 5, none⟩ (.slice s1 sl s2) (fun h => by have := HSZ1.out; have := HSZ3.out; have h2 : W3.heap.size ≤ gi := h; omega)).cell ⟨gi, 4, none⟩ (.slice none 0 0) (fun h => by have := HSZ1.out; have := HSZ3.out; have h2 : W3.heap.size ≤ gi := h; omega))
  have HKD4 := Lib.hid (((HKD.out.below hw4).cell ⟨gi, 5, none⟩ (.slice s1 sl s2) (fun h => by have := HSZ1.out; have h2 : W1.heap.size ≤ gi := h; omega)).cell ⟨gi, 4, none⟩ (.slice none 0 0) (fun h => by have := HSZ1.out; have h2 : W1.heap.size ≤ gi := h; omega))
  have HI5 := Lib.hid ((HI4.out.set 5 (.slice s1 sl s2)).set 4 (.slice none 0 0))
  simp only [List.set_cons_succ, List.set_cons_zero] at HI5
  have HOL4 := Lib.hid (show ∀ j, j < W3.heap.size → j ≠ gi → ((w4.setCell ⟨gi, 5, none⟩ (.slice s1 sl s2)).setCell ⟨gi, 4, none⟩ (.slice none 0 0)).heap[j]? = W3.heap[j]? from fun j hj hne => by rw [heap_setCell_other _ _ j _ hne, heap_setCell_other _ _ j _ hne]; exact hw4.block j hj)
  have H04 := Lib.hid (((H03.out.trans (Below.mono hw4 H03.out.size)).setCell (p := ⟨gi, 5, none⟩) (by have := HGI.out; simp; omega) (.slice s1 sl s2)).setCell (p := ⟨gi, 4, none⟩) (by have := HGI.out; simp; omega) (.slice none 0 0))
  clear ho4 hg4 hd4 hw4 HE3 k5 HG3
  go_upto_region 6 with (fail)
  obtain ⟨W5, hW5⟩ : ∃ W5, (w4.setCell ⟨gi, 5, none⟩ (.slice s1 sl s2)).setCell ⟨gi, 4, none⟩ (.slice none 0 0) = W5 := ⟨_, rfl⟩
  rw [hW5] at HSD HKD4 HI5 HOL4 H04
  rw [hW5]
  have HBX5 := Lib.hid (HBX3.out.of (HOL4.out _ HBX3.out.lt (by have := HGI.out; omega)))
  have HRS5 := Lib.hid (HRS3.out.of (HOL4.out _ HRS3.out.lt (by have := HGI.out; omega)))
  have HSZ5 := Lib.hid (show gi < W5.heap.size from HI5.out.lt)
  have HG1S := Lib.hid (show gi < W1.heap.size ∧ gi < W3.heap.size from ⟨HSZ1.out, by have := HSZ1.out; have := HSZ3.out; omega⟩)
  clear hW5 c5 f5 c4 f4 HI3 HI4 HBX1 HRS1 HK1 HG1 HX1 H01 HOL HOL4 HKD HBX3 HRS3 H03
  go_loopw [4] (fun v4 wr => ∃ (j : Nat) (ea : Option Addr) (ec : Nat) (vs : List Value), v4 = .int .i64 (j : Nat) ∧ j ≤ n ∧ Blk wr gi 26 [.int .u64 (sn : Nat), .string is, .string su, .slice k1 kn k2, .slice ea j ec, .slice s1 sl s2] ∧ GrowE W5.heap.size wr (.slice ea j ec) j (xs.take j) vs ∧ (∀ q, q < W5.heap.size → q ≠ gi → wr.heap[q]? = W5.heap[q]?) ∧ W5.heap.size ≤ wr.heap.size ∧ Below w.heap.size w wr) (fun v _ => n - (intOf v).toNat)
  case atStart => exact ⟨0, none, 0, [], rfl, Nat.zero_le _, HI5.out, ⟨World.ownsRow_nil _ _ _ _, fun _ _ => rfl⟩, fun _ _ _ => rfl, Nat.le_refl _, H04.out⟩
  case round =>
    obtain ⟨j, ea, ec, vs, rfl, hj, hbi, hge, hol, hsz, hbw⟩ := hrel
    have HBI := Lib.hid hbi
    have HGE := Lib.hid hge
    have HOL := Lib.hid hol
    have HSZ := Lib.hid hsz
    have HBW := Lib.hid hbw
    have HBX := Lib.hid (HBX5.out.of (hol _ HBX5.out.lt (by have := HGI.out; omega)))
    clear hbi hge hol hsz hbw
    have k4 := blkc HBX.out (i := 4) rfl
    by_cases hjn : j < n
    · obtain ⟨y, hy⟩ : ∃ y, xs[j]? = some y := ⟨xs[j]'(by have := HX0.out.1; omega), List.getElem?_eq_getElem _⟩
      obtain ⟨g, o, rfl, hrow⟩ := HX0.out.2.2.2.2.resolve_left (by omega)
      obtain ⟨hxb, a2, c2, hr, hbv⟩ := hrow.at hy
      obtain ⟨m2, hm2⟩ : ∃ q, y.2.2.length = q := ⟨_, rfl⟩
      rw [hm2] at hr hbv
      have HR := Lib.hid (rangeAt_below hr HBW.out)
      have HBV := Lib.hid hbv
      have HM2 := Lib.hid hm2
      have HXB := Lib.hid hxb
      have HTK := Lib.hid (show xs.take (j + 1) = xs.take j ++ [y] by rw [List.take_add_one, hy]; rfl)
      have hji : (j : Int) < (n : Int) := by omega
      have hj0 : (0 : Int) ≤ (j : Int) := by omega
      have hbE : Gr wr ((wr.alloc (.cells #[.int .i64 0, .bool false, .slice none 0 0] 67)).setRow wr.heap.size #[.int .i64 y.1, .bool y.2.1, .slice a2 m2 c2]) := below_setRow' (Gr.alloc wr _) (Nat.le_refl _) _
      have HE := Lib.hid ((Blk.new wr 67 [.int .i64 0, .bool false, .slice none 0 0]).setRow [.int .i64 y.1, .bool y.2.1, .slice a2 m2 c2])
      have HZE := Lib.hid (Blk.new wr 67 [.int .i64 0, .bool false, .slice none 0 0])
      have hszE : wr.heap.size < ((wr.alloc (.cells #[.int .i64 0, .bool false, .slice none 0 0] 67)).setRow wr.heap.size #[.int .i64 y.1, .bool y.2.1, .slice a2 m2 c2]).heap.size := by simp
      obtain ⟨w10, hw10⟩ : ∃ w10, (wr.alloc (.cells #[.int .i64 0, .bool false, .slice none 0 0] 67)).setRow wr.heap.size #[.int .i64 y.1, .bool y.2.1, .slice a2 m2 c2] = w10 := ⟨_, rfl⟩
      have HW10 := Lib.hid hw10
      rw [hw10] at hbE HE hszE
      have HGE10 := Lib.hid hbE
      have HSE := Lib.hid hszE
      have HEM := Lib.hid (zero_own w10)
      have HBV10 := Lib.hid (HBV.out.below (HBW.out.trans (Below.mono hbE HBW.out.size)))
      have e2 := blkc (HE.out.alloc (.cells #[] 5)) (i := 2) rfl
      clear hr hrow hy hm2 hbv hxb hw10 hbE hszE
      go_wp2_with (first
        | (refine ldX rfl (.tmp 28) rfl g (o + j * 3) rfl _ _ _ HR.out ?_)
        | (refine wpList_store_row (P := Tryz.prog) rfl 67 (.tmp 5) (.tmp 29) rfl wr.heap.size #[.int .i64 y.1, .bool y.2.1, .slice a2 m2 c2] rfl rfl 67 _ HZE.out info65 rfl (all_ext _ _ _ _ _) ?_; rw [HW10.out])
        | (at_builtin; refine wpList_append_bytes _ rfl (.tmp 30) (.tmp 32) rfl w10.heap.size (.slice (some ⟨w10.heap.size, 0, none⟩) 0 0) 0 [] rfl HEM.out a2 m2 c2 y.2.2 rfl (HBV10.out.below (Gr.alloc w10 _)) (by have := HBV.out.2.2.2.1; omega) (by simp) ?_))
      intro v11 w11 ho11 hg11
      try rw [Nat.zero_add, List.nil_append] at ho11
      obtain ⟨q1, q2, rfl⟩ := own_slice ho11
      have hd11 := dep_own ho11 HBV.out.1.2.2.1 HBV.out.2.2.2.1
      have hw11 : Gr w10 w11 := grownG hg11
      have HE11 := Lib.hid (HE.out.below' hw11)
      have e5 := blkc HE11.out (i := 2) rfl
      have f5 := HE11.out.free 2
      have HE12 := Lib.hid (HE11.out.set 2 (.slice q1 m2 q2))
      simp only [List.set_cons_succ, List.set_cons_zero] at HE12
      have HGR12 := Lib.hid (show Gr wr (w11.setCell ⟨wr.heap.size, 2, none⟩ (.slice q1 m2 q2)) from Below.setCell (p := ⟨wr.heap.size, 2, none⟩) (show Below wr.heap.size wr w11 from Gr.trans HGE10.out hw11) (by simp) _)
      have HD12 := Lib.hid (hd11.cell ⟨wr.heap.size, 2, none⟩ (.slice q1 m2 q2) (fun h => by have := HSE.out; have h2 : w10.heap.size ≤ wr.heap.size := h; omega))
      have HI12 := Lib.hid (HBI.out.below' HGR12.out)
      have i4 := blkc HI12.out (i := 4) rfl
      obtain ⟨i65, hi65, hz65, hs65, hy65⟩ := info_parts info65z
      clear ho11 hg11 hd11 hw11 e2 k4 i4
      go_upto_region 10 with (fail)
      obtain ⟨W12, hW12⟩ : ∃ W12, w11.setCell ⟨wr.heap.size, 2, none⟩ (.slice q1 m2 q2) = W12 := ⟨_, rfl⟩
      rw [hW12] at HE12 HGR12 HD12 HI12
      rw [hW12]
      clear hW12 e5 f5 HE11
      have i4 := blkc HI12.out (i := 4) rfl
      go_wp2_with (first
        | (refine wpList_load_row (P := Tryz.prog) rfl 67 (.tmp 5) rfl wr.heap.size rfl 67 _ _ _ HE12.out Tryz.underlying67 rfl info65 ?_)
        | (at_builtin; go_loud (refine wpList_append_lies _ rfl (.tmp 36) (.tmp 38) 24 rfl W5.heap.size 67 i65 _ 3 40 Tryz.underlying24 hi65 hz65 hs65 hy65 rfl (by decide) (.slice ea j ec) j vs rfl (own_below HGE.out.1 (Gr.trans HGR12.out (Gr.alloc _ _))) ⟨W12.heap.size, 0, none⟩ 1 1 [.int .i64 y.1, .bool y.2.1, .slice q1 m2 q2] rfl rfl (news_lit _ _ _) (all1_ext _ _ _ _ _) (by decide) (by simp only [maxLen]; omega) (by omega) (by { have h1 := HSZ.out; have h2 := Below.size HGR12.out; simp; omega }) _ rfl ?_)))
      intro g5 cap5 w13 hown5 hg5 hat5 hlt5
      have HGR := Lib.hid (show Gr wr (W12.alloc (.cells #[.int .i64 y.1, .bool y.2.1, .slice q1 m2 q2] 67)) from Gr.trans HGR12.out (Gr.alloc _ _))
      have hob5 : ∀ q, q ∈ ob (.slice ea j ec) → W5.heap.size ≤ q := fun q hq => (own_ob_lt HGE.out.1 q hq).1
      have hblk5 : ∀ q, q < wr.heap.size → q < W5.heap.size → w13.heap[q]? = wr.heap[q]? := fun q h1 h2 => (hg5.block q (Nat.lt_of_lt_of_le h1 HGR.out.size) (fun e => by have := hob5 q (by simp [ob, ← e]); omega)).trans (HGR.out.block q h1)
      have hsz5 : wr.heap.size ≤ w13.heap.size := Nat.le_trans HGR.out.size hg5.size
      have hgi5 : gi < W5.heap.size := HSZ5.out
      have HPU := Lib.hid (GrowE.push HGE.out HGR.out HXB.out HM2.out (HD12.out.below (Gr.alloc _ _)) (Nat.le_of_lt HSE.out) HSZ.out hg5 (H := W12.heap.size + 1) (by simp) hat5 hown5)
      have HI13 := Lib.hid (HBI.out.of (hblk5 gi HBI.out.lt hgi5))
      have i5 := blkc HI13.out (i := 4) rfl
      have fi5 := HI13.out.free 4
      have hg14 := grown_setCell w13 ⟨gi, 4, none⟩ (.slice (some ⟨g5, 0, none⟩) (j + 1) cap5)
      have HP14 := Lib.hid (GrowE.low HPU.out hg14 hgi5)
      have HI14 := Lib.hid (HI13.out.set 4 (.slice (some ⟨g5, 0, none⟩) (j + 1) cap5))
      simp only [List.set_cons_succ, List.set_cons_zero] at HI14
      have HOL14 := Lib.hid (show ∀ q, q < W5.heap.size → q ≠ gi → (w13.setCell ⟨gi, 4, none⟩ (.slice (some ⟨g5, 0, none⟩) (j + 1) cap5)).heap[q]? = W5.heap[q]? from fun q h1 h2 => by
        rw [heap_setCell_other _ _ q _ h2, hblk5 q (Nat.lt_of_lt_of_le h1 HSZ.out) h1]; exact HOL.out q h1 h2)
      have HSZ14 := Lib.hid (show W5.heap.size ≤ (w13.setCell ⟨gi, 4, none⟩ (.slice (some ⟨g5, 0, none⟩) (j + 1) cap5)).heap.size from Nat.le_trans HSZ.out (Nat.le_trans hsz5 hg14.size))
      have hbw13 : Below w.heap.size w w13 := (HBW.out.trans (Below.mono HGR.out HBW.out.size)).trans ⟨hg5.os, hg5.tape, hg5.output, hg5.size, fun k hk => hg5.block k (Nat.lt_of_lt_of_le hk (Nat.le_trans HBW.out.size HGR.out.size)) (fun e => by have := hob5 k (by simp [ob, ← e]); have := HGI.out; omega)⟩
      have HBW14 := Lib.hid (hbw13.setCell (p := ⟨gi, 4, none⟩) (by have := HGI.out; simp; omega) (.slice (some ⟨g5, 0, none⟩) (j + 1) cap5))
      have HTK2 := Lib.hid (show xs.take j ++ [y] = xs.take (j + 1) from HTK.out.symm)
      rw [HTK2.out] at HP14
      clear hown5 hg5 hat5 hlt5 hob5 hblk5 hsz5 hg14 hbw13 i4 HTK HTK2 HPU HGR
      go_wp2_with fail
      go_roundw
      case rel => exact ⟨j + 1, _, _, _, by go_num, by omega, HI14.out, HP14.out, HOL14.out, HSZ14.out, HBW14.out⟩
      case measure => simp [intOf]; omega
    · have hjl : n = j := by omega
      have HTN := Lib.hid (show xs.take j = xs from List.take_of_length_le (by have := HX0.out.1; omega))
      rw [HTN.out] at HGE
      have HXL := Lib.hid (show xs.length = j from by have := HX0.out.1; omega)
      have HJB := Lib.hid (show j ≤ 140737488355328 by omega)
      have hji : ¬ (j : Int) < (n : Int) := by omega
      have HRS := Lib.hid (HRS5.out.of (HOL.out _ HRS5.out.lt (by have := HGI.out; omega)))
      have HKE := Lib.hid ((HKD4.out.keep (E := fun q => W1.heap.size ≤ q) HSZ.out (fun q hq hl => HOL.out q hl (by have := HG1S.out.1; omega)) (fun _ h _ => h)))
      have HSE := Lib.hid ((HSD.out.keep (E := fun q => W3.heap.size ≤ q) HSZ.out (fun q hq hl => HOL.out q hl (by have := HG1S.out.2; omega)) (fun _ h _ => h)))
      have HWS := Lib.hid (show w.heap.size + 2 ≤ W1.heap.size ∧ w.heap.size + 2 ≤ W3.heap.size ∧ w.heap.size + 2 ≤ W5.heap.size from by have h1 := HGI.out; have h2 := HG1S.out; have h3 := HSZ5.out; omega)
      have HJN := Lib.hid hjl
      clear hjl HTN
      go_wp2_with (first
        | (refine wpList_load_row (P := Tryz.prog) rfl 26 (.tmp 3) rfl gi rfl 26 _ _ _ HBI.out Tryz.underlying26 rfl info55 ?_)
        | (refine wpList_store_row (P := Tryz.prog) rfl 26 (.tmp 2) (.tmp 41) rfl (w.heap.size + 1) #[.int .u64 (sn : Nat), .string is, .string su, .slice k1 kn k2, .slice ea j ec, .slice s1 sl s2] rfl rfl 26 _ HRS.out info55 rfl (all_cert _ _ _ _ _ _ _ _ _ _ _ _) ?_))
      refine bodyPost_ret (results_one Tryz.results12 _ _ (w.heap.size + 1) 26 _ (0, 0) _ rfl (HRS.out.setRow [.int .u64 (sn : Nat), .string is, .string su, .slice k1 kn k2, .slice ea j ec, .slice s1 sl s2]) Tryz.underlying26 rfl info55) rfl ?_
      have hN := HJN.out
      have hws := HWS.out
      have hge2 : GrowE W5.heap.size (wr.setRow (w.heap.size + 1) #[.int .u64 (sn : Nat), .string is, .string su, .slice k1 kn k2, .slice ea j ec, .slice s1 sl s2]) (.slice ea j ec) j xs vs :=
        ⟨own_keep HGE.out.1 (fun q hq => setRow_other wr _ q _ (by have := (own_ob_lt HGE.out.1 q hq).1; omega)), HGE.out.2.row (w.heap.size + 1) _ (fun h => by have := h.1; omega)⟩
      have hxe := GrowE.xin hge2 HXL.out HJB.out
      rw [hN]
      exact ⟨k1, k2, ea, ec, s1, s2, rfl, (HKE.out.row (w.heap.size + 1) _ (fun h => by have h : W1.heap.size ≤ w.heap.size + 1 := h; omega)).now, hxe, (HSE.out.row (w.heap.size + 1) _ (fun h => by have h : W3.heap.size ≤ w.heap.size + 1 := h; omega)).now, below_setRow' HBW.out (by omega) _⟩
end Go.Proofs.YtbabpmncdphnjaaGreat
