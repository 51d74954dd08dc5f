/- FlashSpans: the law's walk. No condition. -/
import Derived.Test.YtlgpaglkhgomiaaCw
import Derived.Test.YtlgpaglkhgomiaaSn
import Derived.Test.YtlgpaglkhgomiaaGl
import Derived.Deep.CutRange
namespace Go.Proofs.Ytlgpaglkhgomiaa
open Go.RowKit
set_option linter.unusedVariables false
set_option maxRecDepth 100000
set_option linter.unusedSimpArgs false
/-- a piece of a list in memory -/
theorem slice_bin {w : World} {a : Option Addr} {n cp x y : Nat} {l : List Nat} (h : BIn w a n cp l) (hn : 0 < n) (hx : x + y ≤ n) (w' : World) : ∃ a', (Instr.slice 41 (.slice a n cp) (some (.int .i64 (x : Nat))) (some (.int .i64 ((x : Int) + (y : Int)))) none).run Try.prog w' = .ok (.slice a' y (cp - x)) w' ∧ BIn w a' y (cp - x) ((l.drop x).take y) := by
  have he : Try.prog.elem 41 = 5 := by kernel_rfl
  obtain ⟨i0, hi0, hz0, hz1, hz2⟩ := info_parts info5
  have hs : ∀ w', (sizeOf 5).run Try.prog w' = .ok 1 w' := fun w' => by simp [sizeOf, typeInfo, hi0, hz1]
  have hcp := h.2.1
  obtain ⟨b, off, rfl, hc⟩ := h.1.2.2.2.resolve_left (by omega)
  have hrun : (Instr.slice 41 (.slice (some ⟨b, off, none⟩) n cp) (some (.int .i64 (x : Nat))) (some (.int .i64 ((x : Int) + (y : Int)))) none).run Try.prog w' = .ok (sliced (some ⟨b, off, none⟩) x (x + y) cp 1) w' := by
    rw [run_slice_lh w' 41 (some ⟨b, off, none⟩) n cp (by rw [he]; exact Try.underlying41) .i64 .i64 x ((x : Int) + (y : Int)) (by omega) (by omega) (by omega), he, hs]
    simp only [Result.andThen]
    congr 2
  rw [hrun]
  unfold sliced
  rw [show x + y - x = y by omega]
  by_cases q : cp = x
  · rw [if_pos q]
    have hy : y = 0 := by omega
    subst hy
    refine ⟨_, rfl, ?_⟩
    simp only [List.take_zero]
    exact bin_empty w _ _ (by have := h.2.2.1; omega) (fun e => by cases e)
  · rw [if_neg q]
    refine ⟨_, rfl, ?_⟩
    show BIn w (some ((⟨b, off, none⟩ : Addr).add (x * 1))) _ _ _
    rw [Nat.mul_one, Addr.add_mid]
    exact bin_sub h hn hx
theorem span_part (c : Int → List Nat) (a : Int) (x y L : Nat) (h : x + y ≤ L) : ((spanL c a 0 L).drop x).take y = spanL c a x y := by
  have hl := spanL_length c a 0 L
  rw [piece_eq _ _ _ (by rw [hl]; exact h)]
  unfold spanL tell
  refine List.map_congr_left fun j hj => ?_
  have hj' := List.mem_range.1 hj
  simp [List.getD_eq_getElem?_getD, List.getElem?_range (show x + j < L by omega)]
theorem span_next (c : Int → List Nat) (hc : ∀ x, IsB (c x)) (a : Int) (i : Nat) : spanL c a 0 (512 * i) ++ c (a + (i : Int)) = spanL c a 0 (512 * (i + 1)) := by
  have h := span_step c a 0 (512 * i) 512 hc (by omega)
  have e1 : (0 + 512 * i) / 512 = i := by omega
  have e2 : (0 + 512 * i) % 512 = 0 := by omega
  rw [e1, e2, List.drop_zero, List.take_of_length_le (by rw [(hc _).1]; exact Nat.le_refl _)] at h
  exact h
theorem info24 : (Try.prog.info? 24).map (·.size) = some 3 := by kernel_rfl
set_option maxRecDepth 100000 in
set_option maxHeartbeats 12800000 in
theorem span_walk (cb fi bl fr sz : Int) (raw : Bool) (P : Option Addr) (k cp : Nat) (bs : List BlkR) (w : World) (hin : LIn w P k bs) (hk : k ≤ 140737488355328) (hcb : I64 cb) (hfi : I64 fi) (hbl : I64 bl) (hfr : I64 fr) (hsz : I64 sz) :
    Calls Try.prog 5 #[.agg #[.int .i64 cb, .slice P k cp, .bool raw, .int .i64 fi, .int .i64 bl, .int .i64 fr, .int .i64 sz]] w fun e w' => e = .returned (.bool true) ∧ Below w.heap.size w w' := by
  have HA := Lib.hid (fun w' => alive_any w')
  have HIN := Lib.hid hin
  unfold NewIs at HA
  clear hin
  obtain ⟨W0, hW0⟩ : ∃ W0, w.alloc (.cells #[.int .i64 cb, .slice P k cp, .bool raw, .int .i64 fi, .int .i64 bl, .int .i64 fr, .int .i64 sz] 60) = W0 := ⟨_, rfl⟩
  have hb0 : Below w.heap.size w W0 := hW0 ▸ (Below.refl _ _).alloc (Nat.le_refl _) _
  have HX0 := Lib.hid (show Blk W0 w.heap.size 60 [.int .i64 cb, .slice P k cp, .bool raw, .int .i64 fi, .int .i64 bl, .int .i64 fr, .int .i64 sz] from by rw [← hW0]; exact Blk.new w _ _)
  have HB0 := Lib.hid hb0
  have HU0 := Lib.hid hW0
  clear hb0 hW0
  go_enter Try.func5, Try.ntmps5
  go_upto_region 1 with (fail)
  try rw [HU0.out]
  try go_frame
  refine wp_region_G (fun w_ => Blk w_ w.heap.size 60 [.int .i64 cb, .slice P k cp, .bool raw, .int .i64 fi, .int .i64 bl, .int .i64 fr, .int .i64 sz]) 15 (by kernel_rfl) HX0.out.drew ?_
  refine wpAnyG_take (oi := _) (v := _) (fun _ _ hS_ hb_ => hS_.gr hb_) (i := 0) rfl (by kernel_rfl) (fun _ _ _ h => h) (pureG (by rfl) (by intro w; go_simp; first | done | with_reducible rfl)) ?_
  try simp only [Act.put, List.getElem_toArray, List.getElem_cons_succ, List.getElem_cons_zero, List.setIfInBounds_toArray, List.set_cons_zero, List.set_cons_succ]
  refine wpAnyG_take (oi := _) (v := _) (fun _ _ hS_ hb_ => hS_.gr hb_) (i := 1) rfl (by kernel_rfl) (fun _ _ _ h => h) (loadG (by rfl) 24 (.tmp 24) rfl w.heap.size 0 rfl [.int .i64 cb, .slice P k cp, .bool raw] _ (fun w_ hS_ => blk_part (a := []) (c := [.int .i64 fi, .int .i64 bl, .int .i64 fr, .int .i64 sz]) hS_ rfl) Try.underlying24 rfl info24) ?_
  try simp only [Act.put, List.getElem_toArray, List.getElem_cons_succ, List.getElem_cons_zero, List.setIfInBounds_toArray, List.set_cons_zero, List.set_cons_succ]
  refine wpAnyG_take (oi := _) (v := _) (fun _ _ hS_ hb_ => hS_.gr hb_) (i := 2) rfl (by kernel_rfl) (fun _ _ _ h => h) (pureG (by rfl) (by intro w; go_simp; first | done | with_reducible rfl)) ?_
  try simp only [Act.put, List.getElem_toArray, List.getElem_cons_succ, List.getElem_cons_zero, List.setIfInBounds_toArray, List.set_cons_zero, List.set_cons_succ]
  refine wpAnyG_take (oi := _) (v := _) (fun _ _ hS_ hb_ => hS_.gr hb_) (i := 3) rfl (by kernel_rfl) (fun _ _ _ h => h) (worldG (by rfl) (by intro w_ hS_; have q0 := show w_.cell? ⟨w.heap.size, 3, none⟩ = some (.int .i64 fi) from hS_.cell 3; go_simp; first | done | with_reducible rfl)) ?_
  try simp only [Act.put, List.getElem_toArray, List.getElem_cons_succ, List.getElem_cons_zero, List.setIfInBounds_toArray, List.set_cons_zero, List.set_cons_succ]
  refine wpAnyG_take (oi := _) (v := _) (fun _ _ hS_ hb_ => hS_.gr hb_) (i := 4) rfl (by kernel_rfl) (fun _ _ _ h => h) (pureG (by rfl) (by intro w; go_simp; first | done | with_reducible rfl)) ?_
  try simp only [Act.put, List.getElem_toArray, List.getElem_cons_succ, List.getElem_cons_zero, List.setIfInBounds_toArray, List.set_cons_zero, List.set_cons_succ]
  refine wpAnyG_take (oi := _) (v := _) (fun _ _ hS_ hb_ => hS_.gr hb_) (i := 5) rfl (by kernel_rfl) (fun _ _ _ h => h) (worldG (by rfl) (by intro w_ hS_; have q0 := show w_.cell? ⟨w.heap.size, 4, none⟩ = some (.int .i64 bl) from hS_.cell 4; go_simp; first | done | with_reducible rfl)) ?_
  try simp only [Act.put, List.getElem_toArray, List.getElem_cons_succ, List.getElem_cons_zero, List.setIfInBounds_toArray, List.set_cons_zero, List.set_cons_succ]
  refine wpAnyG_take (oi := _) (v := _) (fun _ _ hS_ hb_ => hS_.gr hb_) (i := 6) rfl (by kernel_rfl) (fun _ _ _ h => h) (pureG (by rfl) (by intro w; go_simp; first | done | with_reducible rfl)) ?_
  try simp only [Act.put, List.getElem_toArray, List.getElem_cons_succ, List.getElem_cons_zero, List.setIfInBounds_toArray, List.set_cons_zero, List.set_cons_succ]
  refine wpAnyG_take (oi := _) (v := _) (fun _ _ hS_ hb_ => hS_.gr hb_) (i := 7) rfl (by kernel_rfl) (fun _ _ _ h => h) (worldG (by rfl) (by intro w_ hS_; have q0 := show w_.cell? ⟨w.heap.size, 5, none⟩ = some (.int .i64 fr) from hS_.cell 5; go_simp; first | done | with_reducible rfl)) ?_
  try simp only [Act.put, List.getElem_toArray, List.getElem_cons_succ, List.getElem_cons_zero, List.setIfInBounds_toArray, List.set_cons_zero, List.set_cons_succ]
  refine wpAnyG_take (oi := _) (v := _) (fun _ _ hS_ hb_ => hS_.gr hb_) (i := 8) rfl (by kernel_rfl) (fun _ _ _ h => h) (pureG (by rfl) (by intro w; go_simp; first | done | with_reducible rfl)) ?_
  try simp only [Act.put, List.getElem_toArray, List.getElem_cons_succ, List.getElem_cons_zero, List.setIfInBounds_toArray, List.set_cons_zero, List.set_cons_succ]
  refine wpAnyG_take (oi := _) (v := _) (fun _ _ hS_ hb_ => hS_.gr hb_) (i := 9) rfl (by kernel_rfl) (fun _ _ _ h => h) (worldG (by rfl) (by intro w_ hS_; have q0 := show w_.cell? ⟨w.heap.size, 6, none⟩ = some (.int .i64 sz) from hS_.cell 6; go_simp; first | done | with_reducible rfl)) ?_
  try simp only [Act.put, List.getElem_toArray, List.getElem_cons_succ, List.getElem_cons_zero, List.setIfInBounds_toArray, List.set_cons_zero, List.set_cons_succ]
  refine wpAnyG_alloc (i := 10) (zs := [.int .i64 0, .slice none 0 0, .bool false]) (t := 24) (fun _ _ hS_ hb_ => hS_.gr hb_) (by kernel_rfl) rfl (allocG (by rfl) rfl _ (fun w => by kernel_rfl)) (fun Wa g hWa hga hba => ?_)
  try simp only [Act.put, List.getElem_toArray, List.getElem_cons_succ, List.getElem_cons_zero, List.setIfInBounds_toArray, List.set_cons_zero, List.set_cons_succ]
  refine wpAnyG_store (i := 11) (by kernel_rfl) rfl hba rfl (StoresG.mk (by rfl) 24 (.tmp 3) (.tmp 25) rfl rfl (cs := [.int .i64 cb, .slice P k cp, .bool raw]) rfl info24 (fun v hv => by simp at hv; rcases hv with rfl | rfl | rfl <;> rfl)) (.inr (fun w_ hS_ => Blk.row hS_ _ (by have : W0.heap.size ≤ g := hga; have := HX0.out.lt; omega))) (fun Wb hgb hbb => ?_)
  try simp only [Act.put, List.getElem_toArray, List.getElem_cons_succ, List.getElem_cons_zero, List.setIfInBounds_toArray, List.set_cons_zero, List.set_cons_succ]
  refine wpAnyG_only (i := 12) (by kernel_rfl) (fun Wd hG0 hS0 => ?_)
  refine wpOp_run rfl (by rfl) (v := .int .i64 fi) (W2 := Wd) (by go_simp; first | done | with_reducible rfl) ⟨.inr hS0, ?_⟩
  try simp only [Act.put, List.getElem_toArray, List.getElem_cons_succ, List.getElem_cons_zero, List.setIfInBounds_toArray, List.set_cons_zero, List.set_cons_succ]
  refine wpAnyG_only (i := 13) (by kernel_rfl) (fun We hG1 hS1 => ?_)
  refine wpOp_run rfl (by rfl) (v := .int .i64 bl) (W2 := We) (by go_simp; first | done | with_reducible rfl) ⟨.inr hS1, ?_⟩
  try simp only [Act.put, List.getElem_toArray, List.getElem_cons_succ, List.getElem_cons_zero, List.setIfInBounds_toArray, List.set_cons_zero, List.set_cons_succ]
  refine wpAnyG_only (i := 14) (by kernel_rfl) (fun Wf hG2 hS2 => ?_)
  refine wpOp_run rfl (by rfl) (v := .int .i64 fr) (W2 := Wf) (by go_simp; first | done | with_reducible rfl) ⟨.inr hS2, ?_⟩
  try simp only [Act.put, List.getElem_toArray, List.getElem_cons_succ, List.getElem_cons_zero, List.setIfInBounds_toArray, List.set_cons_zero, List.set_cons_succ]
  refine wpAnyG_only (i := 15) (by kernel_rfl) (fun Wg hG3 hS3 => ?_)
  refine wpOp_run rfl (by rfl) (v := .int .i64 sz) (W2 := Wg) (by go_simp; first | done | with_reducible rfl) ⟨.inl ⟨rfl, by kernel_rfl⟩, wpAnyG_done (by kernel_rfl) (fun W1 h1 => ?_) _⟩
  try simp only [Act.put, List.getElem_toArray, List.getElem_cons_succ, List.getElem_cons_zero, List.setIfInBounds_toArray, List.set_cons_zero, List.set_cons_succ]
  have hgr : Below W0.heap.size W0 W1 := (Gr.drew W0).trans ((((((hWa.store hgb hga).trans hG0).trans hG1).trans hG2).trans hG3).trans h1)
  have hgx : w.heap.size ≤ g := by have q1 := HX0.out.lt; have : W0.heap.size ≤ g := hga; omega
  have HX1 := Lib.hid (show Blk W1 g 24 [.int .i64 cb, .slice P k cp, .bool raw] from ((((hbb.gr hG0).gr hG1).gr hG2).gr hG3).gr h1)
  have HB1 := Lib.hid (HB0.out.trans (hgr.mono HB0.out.size))
  clear hWa hga hba hgb hbb hG0 hS0 hG1 hS1 hG2 hS2 hG3 hS3 h1 hgr HX0 HB0 HU0
  have k0 : W1.cell? ⟨g, 0, none⟩ = some (.int .i64 cb) := HX1.out.cell 0
  have hp := pickI_lt (c := cb) (n := 40) (by omega)
  obtain ⟨pn, hpn⟩ := Int.eq_ofNat_of_zero_le hp.1
  have hpn2 : pn < 40 := by omega
  have HP := Lib.hid (show Calls Try.prog 19 #[.int .i64 cb, .int .i64 40] W1 (fun e w'' => e = .returned (.int .i64 (pn : Int)) ∧ W1 = w'') from by have := pick_any cb 40 W1 hcb (by omega) (by omega); rwa [hpn] at this)
  have HN := Lib.hid (new_nil (1 + (pn : Int)) W1 (by omega) (by omega) 0 0 rfl rfl)
  clear hp hpn
  go_wp2_with (go_at_call 19; refine HP.out.mono ?_; rintro e w9 ⟨rfl, rfl⟩)
  refine HN.out.mono ?_
  rintro e w2 ⟨f, mb, hf, hmb, rfl, hfl, hma, hb2⟩
  have HF2 := Lib.hid hfl
  have HM2 := Lib.hid hma
  have HX2 := Lib.hid (HX1.out.gr hb2)
  have HB2 := Lib.hid (HB1.out.trans (hb2.mono HB1.out.size))
  have hgf : g < f := Nat.lt_of_lt_of_le HX1.out.lt hf
  have hgm : g < mb := Nat.lt_of_lt_of_le HX1.out.lt hmb
  have hfm := fl_map hfl hma
  clear hfl hma hb2 HN HP HX1 HB1 k0 hf hmb
  go_wp2_with fail
  refine (HA.out _).mono ?_
  rintro e w3 ⟨rfl, hb3⟩
  have HF3 := Lib.hid (HF2.out.gr hb3)
  have HM3 := Lib.hid (HM2.out.gr hb3)
  have HX3 := Lib.hid (HX2.out.gr hb3)
  have HB3 := Lib.hid (HB2.out.trans (hb3.mono HB2.out.size))
  have HSZ := Lib.hid (size_any f mb _ _ _ _ _ w3 HF3.out)
  clear hb3 HF2 HM2 HX2 HB2 HA
  go_wp2_with (go_at_call 14; refine HSZ.out.mono ?_; rintro e w9 ⟨rfl, rfl⟩)
  clear HSZ
  obtain ⟨N, hNe⟩ : ∃ N : Int, 1 + (pn : Int) = N := ⟨_, rfl⟩
  rw [hNe] at HF3
  try rw [hNe]
  have hN1 : 1 ≤ N := by omega
  have hN40 : N ≤ 40 := by omega
  clear hNe hpn2
  go_loopw [11] (fun v11 wr => ∃ (i m : Nat) (hs : Int → Bool) (c : Int → List Nat), v11 = .int .i64 i ∧ i ≤ k ∧ m ≤ i ∧ FlB wr f mb N true 0 false (i : Int) ∧ MAt wr mb m hs c ∧ Blk wr g 24 [.int .i64 cb, .slice P k cp, .bool raw] ∧ Below w.heap.size w wr) (fun v11 _ => k - (intOf v11).toNat)
  case atStart => exact ⟨0, 0, _, _, rfl, Nat.zero_le _, Nat.le_refl _, HF3.out, HM3.out, HX3.out, HB3.out⟩
  case round =>
    clear HF3 HM3 HX3 HB3
    obtain ⟨i, m, hs, c, rfl, hi, hmi, hF, hM, hX, hB⟩ := hrel
    have HF := Lib.hid hF
    have HM := Lib.hid hM
    have HX := Lib.hid hX
    have HB := Lib.hid hB
    have k1 : wr.cell? ⟨g, 1, none⟩ = some (.slice P k cp) := hX.cell 1
    clear hF hM hX hB
    by_cases hik : i < k
    · have hik2 : (i : Int) < (k : Int) := by omega
      obtain ⟨b, off, rfl, hcell⟩ := HIN.out.2.2.resolve_left (by omega)
      obtain ⟨x, hx⟩ : ∃ x, bs[i]? = some x := ⟨_, List.getElem?_eq_getElem (by rw [HIN.out.1]; exact hik)⟩
      have HR := Lib.hid (range_gr (hcell i x hx) HB.out)
      have hxx := HIN.out.2.1 x (List.mem_of_getElem? hx)
      have HBN := Lib.hid (hxx.1.below HB.out)
      have hpp := pickI_lt (c := x.N) (n := N) (by omega)
      obtain ⟨kk, hkk⟩ := Int.eq_ofNat_of_zero_le hpp.1
      have hkk2 : (kk : Int) < N := by omega
      have HPP := Lib.hid (fun w' => show Calls Try.prog 19 #[.int .i64 x.N, .int .i64 N] w' (fun e w'' => e = .returned (.int .i64 (kk : Int)) ∧ w' = w'') from by have := pick_any x.N N w' hxx.2 (by omega) (by omega); rwa [hkk] at this)
      obtain ⟨lx, hlx⟩ : ∃ lx, fillL x.l = lx := ⟨_, rfl⟩
      have HLX := Lib.hid (show IsB lx from hlx ▸ fillL_is hxx.1.1.2.2.1)
      have HFI := Lib.hid (fun w' (h : BIn w' x.a x.n x.c x.l) => show Calls Try.prog 21 #[.slice x.a x.n x.c] w' (fun e w'' => ∃ g, e = .returned (.slice (some ⟨g, 0, none⟩) 512 512) ∧ w'.heap.size ≤ g ∧ Blk w'' g 5 (natsV .u8 lx) ∧ Below w'.heap.size w' w'') from by have := filled_any x.a x.n x.c x.l w' h; unfold FillIs at this; rwa [hlx] at this)
      clear hpp hkk hxx hcell hx hlx
      go_upto_region 9 with (fail)
      clear k1
      try go_frame
      refine wp_region_L (fun w_ => Blk w_ g 24 [.int .i64 cb, .slice (some ⟨b, off, none⟩) k cp, .bool raw] ∧ w_.rangeAt b (off + i * 2) x.cs ∧ FlB w_ f mb N true 0 false (i : Int) ∧ MAt w_ mb m hs c ∧ BIn w_ x.a x.n x.c x.l) [16] [] (by kernel_rfl) ⟨HX.out.drew, HR.out, HF.out.drew, HM.out.drew, HBN.out⟩ ?_
      refine wpAnyL_take (oi := _) (v := _) (fun _ _ hS_ hb_ => ⟨hS_.1.gr hb_, range_gr hS_.2.1 hb_, hS_.2.2.1.gr hb_, hS_.2.2.2.1.gr hb_, hS_.2.2.2.2.below hb_⟩) (i := 0) rfl (by kernel_rfl) (fun _ _ _ h => h) (pureG (by rfl) (by intro w; go_simp; first | done | with_reducible rfl)) ?_
      try simp only [Act.put, List.getElem_toArray, List.getElem_cons_succ, List.getElem_cons_zero, List.setIfInBounds_toArray, List.set_cons_zero, List.set_cons_succ]
      refine wpAnyL_take (oi := _) (v := _) (fun _ _ hS_ hb_ => ⟨hS_.1.gr hb_, range_gr hS_.2.1 hb_, hS_.2.2.1.gr hb_, hS_.2.2.2.1.gr hb_, hS_.2.2.2.2.below hb_⟩) (i := 1) rfl (by kernel_rfl) (fun _ _ _ h => h) (pureG (by rfl) (by intro w; go_simp; first | done | with_reducible rfl)) ?_
      try simp only [Act.put, List.getElem_toArray, List.getElem_cons_succ, List.getElem_cons_zero, List.setIfInBounds_toArray, List.set_cons_zero, List.set_cons_succ]
      refine wpAnyL_take (oi := _) (v := _) (fun _ _ hS_ hb_ => ⟨hS_.1.gr hb_, range_gr hS_.2.1 hb_, hS_.2.2.1.gr hb_, hS_.2.2.2.1.gr hb_, hS_.2.2.2.2.below hb_⟩) (i := 2) rfl (by kernel_rfl) (fun _ _ _ h => h) (worldG (by rfl) (by intro w_ hS_; have q0 := show w_.cell? ⟨g, 1, none⟩ = some (.slice (some ⟨b, off, none⟩) k cp) from hS_.1.cell 1; go_simp; first | done | with_reducible rfl)) ?_
      try simp only [Act.put, List.getElem_toArray, List.getElem_cons_succ, List.getElem_cons_zero, List.setIfInBounds_toArray, List.set_cons_zero, List.set_cons_succ]
      refine wpAnyL_take (oi := _) (v := _) (fun _ _ hS_ hb_ => ⟨hS_.1.gr hb_, range_gr hS_.2.1 hb_, hS_.2.2.1.gr hb_, hS_.2.2.2.1.gr hb_, hS_.2.2.2.2.below hb_⟩) (i := 3) rfl (by kernel_rfl) (fun _ _ _ h => h) (pureG (by rfl) (by intro w; go_simp; first | done | with_reducible rfl)) ?_
      try simp only [Act.put, List.getElem_toArray, List.getElem_cons_succ, List.getElem_cons_zero, List.setIfInBounds_toArray, List.set_cons_zero, List.set_cons_succ]
      refine wpAnyL_take (oi := _) (v := _) (fun _ _ hS_ hb_ => ⟨hS_.1.gr hb_, range_gr hS_.2.1 hb_, hS_.2.2.1.gr hb_, hS_.2.2.2.1.gr hb_, hS_.2.2.2.2.below hb_⟩) (i := 4) rfl (by kernel_rfl) (fun _ _ _ h => h) (pureG (by rfl) (by intro w; go_simp; first | done | with_reducible rfl)) ?_
      try simp only [Act.put, List.getElem_toArray, List.getElem_cons_succ, List.getElem_cons_zero, List.setIfInBounds_toArray, List.set_cons_zero, List.set_cons_succ]
      refine wpAnyL_take (oi := _) (v := _) (fun _ _ hS_ hb_ => ⟨hS_.1.gr hb_, range_gr hS_.2.1 hb_, hS_.2.2.1.gr hb_, hS_.2.2.2.1.gr hb_, hS_.2.2.2.2.below hb_⟩) (i := 5) rfl (by kernel_rfl) (fun _ _ _ h => h) (pureG (by rfl) (by intro w; go_simp; first | done | with_reducible rfl)) ?_
      try simp only [Act.put, List.getElem_toArray, List.getElem_cons_succ, List.getElem_cons_zero, List.setIfInBounds_toArray, List.set_cons_zero, List.set_cons_succ]
      refine wpAnyL_take (oi := _) (v := _) (fun _ _ hS_ hb_ => ⟨hS_.1.gr hb_, range_gr hS_.2.1 hb_, hS_.2.2.1.gr hb_, hS_.2.2.2.1.gr hb_, hS_.2.2.2.2.below hb_⟩) (i := 6) rfl (by kernel_rfl) (fun _ _ _ h => h) (worldG (by rfl) (by intro w_ hS_; have q0 := show w_.cell? ⟨b, off + i * 2, none⟩ = some (.int .i64 x.N) from range_cell hS_.2.1 (j := 0) rfl; go_simp; first | done | with_reducible rfl)) ?_
      try simp only [Act.put, List.getElem_toArray, List.getElem_cons_succ, List.getElem_cons_zero, List.setIfInBounds_toArray, List.set_cons_zero, List.set_cons_succ]
      refine wpAnyL_take (oi := _) (v := _) (fun _ _ hS_ hb_ => ⟨hS_.1.gr hb_, range_gr hS_.2.1 hb_, hS_.2.2.1.gr hb_, hS_.2.2.2.1.gr hb_, hS_.2.2.2.2.below hb_⟩) (i := 7) rfl (by kernel_rfl) (fun _ _ _ h => h) (pureG (by rfl) (by intro w; go_simp; first | done | with_reducible rfl)) ?_
      try simp only [Act.put, List.getElem_toArray, List.getElem_cons_succ, List.getElem_cons_zero, List.setIfInBounds_toArray, List.set_cons_zero, List.set_cons_succ]
      refine wpAnyL_take (oi := _) (v := _) (fun _ _ hS_ hb_ => ⟨hS_.1.gr hb_, range_gr hS_.2.1 hb_, hS_.2.2.1.gr hb_, hS_.2.2.2.1.gr hb_, hS_.2.2.2.2.below hb_⟩) (i := 8) rfl (by kernel_rfl) (fun _ _ _ h => h) (callG (by rfl) rfl Try.func19 (by kernel_rfl) (by kernel_rfl) (#[.int .i64 x.N, .int .i64 N]) (by simp [Act.eval]) (fun W_ _ => quietC (HPP.out W_))) ?_
      try simp only [Act.put, List.getElem_toArray, List.getElem_cons_succ, List.getElem_cons_zero, List.setIfInBounds_toArray, List.set_cons_zero, List.set_cons_succ]
      refine wpAnyL_take (oi := _) (v := _) (fun _ _ hS_ hb_ => ⟨hS_.1.gr hb_, range_gr hS_.2.1 hb_, hS_.2.2.1.gr hb_, hS_.2.2.2.1.gr hb_, hS_.2.2.2.2.below hb_⟩) (i := 9) rfl (by kernel_rfl) (fun _ _ _ h => h) (pureG (by rfl) (by intro w; go_simp; first | done | with_reducible rfl)) ?_
      try simp only [Act.put, List.getElem_toArray, List.getElem_cons_succ, List.getElem_cons_zero, List.setIfInBounds_toArray, List.set_cons_zero, List.set_cons_succ]
      refine wpAnyL_take (oi := _) (v := _) (fun _ _ hS_ hb_ => ⟨hS_.1.gr hb_, range_gr hS_.2.1 hb_, hS_.2.2.1.gr hb_, hS_.2.2.2.1.gr hb_, hS_.2.2.2.2.below hb_⟩) (i := 10) rfl (by kernel_rfl) (fun _ _ _ h => h) (worldG (by rfl) (by intro w_ hS_; have q0 := show w_.cell? ⟨g, 1, none⟩ = some (.slice (some ⟨b, off, none⟩) k cp) from hS_.1.cell 1; go_simp; first | done | with_reducible rfl)) ?_
      try simp only [Act.put, List.getElem_toArray, List.getElem_cons_succ, List.getElem_cons_zero, List.setIfInBounds_toArray, List.set_cons_zero, List.set_cons_succ]
      refine wpAnyL_take (oi := _) (v := _) (fun _ _ hS_ hb_ => ⟨hS_.1.gr hb_, range_gr hS_.2.1 hb_, hS_.2.2.1.gr hb_, hS_.2.2.2.1.gr hb_, hS_.2.2.2.2.below hb_⟩) (i := 11) rfl (by kernel_rfl) (fun _ _ _ h => h) (pureG (by rfl) (by intro w; go_simp; first | done | with_reducible rfl)) ?_
      try simp only [Act.put, List.getElem_toArray, List.getElem_cons_succ, List.getElem_cons_zero, List.setIfInBounds_toArray, List.set_cons_zero, List.set_cons_succ]
      refine wpAnyL_take (oi := _) (v := _) (fun _ _ hS_ hb_ => ⟨hS_.1.gr hb_, range_gr hS_.2.1 hb_, hS_.2.2.1.gr hb_, hS_.2.2.2.1.gr hb_, hS_.2.2.2.2.below hb_⟩) (i := 12) rfl (by kernel_rfl) (fun _ _ _ h => h) (pureG (by rfl) (by intro w; go_simp; first | done | with_reducible rfl)) ?_
      try simp only [Act.put, List.getElem_toArray, List.getElem_cons_succ, List.getElem_cons_zero, List.setIfInBounds_toArray, List.set_cons_zero, List.set_cons_succ]
      refine wpAnyL_take (oi := _) (v := _) (fun _ _ hS_ hb_ => ⟨hS_.1.gr hb_, range_gr hS_.2.1 hb_, hS_.2.2.1.gr hb_, hS_.2.2.2.1.gr hb_, hS_.2.2.2.2.below hb_⟩) (i := 13) rfl (by kernel_rfl) (fun _ _ _ h => h) (pureG (by rfl) (by intro w; go_simp; first | done | with_reducible rfl)) ?_
      try simp only [Act.put, List.getElem_toArray, List.getElem_cons_succ, List.getElem_cons_zero, List.setIfInBounds_toArray, List.set_cons_zero, List.set_cons_succ]
      refine wpAnyL_take (oi := _) (v := _) (fun _ _ hS_ hb_ => ⟨hS_.1.gr hb_, range_gr hS_.2.1 hb_, hS_.2.2.1.gr hb_, hS_.2.2.2.1.gr hb_, hS_.2.2.2.2.below hb_⟩) (i := 14) rfl (by kernel_rfl) (fun _ _ _ h => h) (worldG (by rfl) (by intro w_ hS_; have q0 := show w_.cell? ⟨b, off + i * 2 + 1, none⟩ = some (.slice x.a x.n x.c) from range_cell hS_.2.1 (j := 1) rfl; go_simp; first | done | with_reducible rfl)) ?_
      try simp only [Act.put, List.getElem_toArray, List.getElem_cons_succ, List.getElem_cons_zero, List.setIfInBounds_toArray, List.set_cons_zero, List.set_cons_succ]
      refine wpAnyL_one (i := 15) (by kernel_rfl) rfl (fun Wa hGa hSa => ?_)
      refine wpOp_callE rfl (by rfl) rfl Try.func21 (by kernel_rfl) (by kernel_rfl) (#[.slice x.a x.n x.c]) (by simp [Act.eval]) ((HFI.out Wa hSa.2.2.2.2).mono ?_)
      rintro e w5 ⟨q, rfl, hq, hbq, hb5⟩
      refine ⟨_, rfl, ⟨hSa.1.gr hb5, range_gr hSa.2.1 hb5, hSa.2.2.1.gr hb5, hSa.2.2.2.1.gr hb5, hSa.2.2.2.2.below hb5⟩, ?_⟩
      try simp only [Act.put, List.getElem_toArray, List.getElem_cons_succ, List.getElem_cons_zero, List.setIfInBounds_toArray, List.set_cons_zero, List.set_cons_succ]
      have HQ5 := Lib.hid hbq
      have HG5 := Lib.hid (show Below wr.heap.size wr w5 from (Gr.drew wr).trans (Gr.trans hGa hb5))
      clear hq hbq hb5 hGa hSa
      refine wpAnyL_oneD (i := 16) (by kernel_rfl) rfl rfl (by kernel_rfl) (of_decide_eq_true (by kernel_rfl)) (fun Wb hGb hSb => ?_)
      have hQb := HQ5.out.gr hGb
      have HWR := Lib.hid (write_go f mb m N 0 _ (kk : Int) false hs c (some ⟨q, 0, none⟩) 512 lx Wb hSb.2.2.1 hSb.2.2.2.1 (by omega) hkk2 (by omega) (bin_blk hQb HLX.out) (fun q0 h0 => by injection h0 with h0; subst h0; exact blk_ne hQb hSb.2.2.1 (by decide)) (by unfold maxLen; omega) (by omega) (by omega) 0 (.inl ⟨rfl, rfl⟩))
      unfold PutIs at HWR
      refine wpOp_callE rfl (by rfl) rfl Try.func22 (by kernel_rfl) (by kernel_rfl) (#[.pointer (some ⟨f, 0, none⟩), .int .i64 (kk : Int), .slice (some ⟨q, 0, none⟩) 512 512]) (by simp [Act.eval]) (HWR.out.mono ?_)
      rintro e w6 ⟨rfl, hf6, hm6, hr6⟩
      refine ⟨_, rfl, wpAnyL_done (by kernel_rfl) (fun W7 h7 => ?_) _⟩
      try simp only [Act.put, List.getElem_toArray, List.getElem_cons_succ, List.getElem_cons_zero, List.setIfInBounds_toArray, List.set_cons_zero, List.set_cons_succ]
      have hx6 := blk_fr hSb.1 hr6 (by omega)
      have hbw : Below w.heap.size w Wb := HB.out.trans ((HG5.out.trans (Below.mono hGb HG5.out.size)).mono HB.out.size)
      have hb6 := Fr.toBelow hbw hr6 (fun j hj e => by rcases e with e | e <;> omega)
      have HF7 := Lib.hid (hf6.gr h7)
      have HM7 := Lib.hid (hm6.gr h7)
      have HX7 := Lib.hid (Blk.gr hx6 h7)
      have HB7 := Lib.hid (hb6.trans (Below.mono h7 hb6.size))
      clear hf6 hm6 hr6 h7 hx6 hbw hb6 hSb hGb hQb HWR HQ5 HG5
      go_wp2_with fail
      go_roundw
      case rel => exact ⟨i + 1, m + 1, _, _, by go_num, by omega, by omega, HF7.out, HM7.out, HX7.out, HB7.out⟩
      case measure => simp [intOf]; omega
    · have hik2 : ¬ (i : Int) < (k : Int) := by omega
      have hIB : ∀ x, IsB (c x) := by obtain ⟨D, _, _, _, h4⟩ := HM.out; exact h4
      have HIB := Lib.hid hIB
      obtain ⟨an, han⟩ := Int.eq_ofNat_of_zero_le (pickI_lt (c := fi) (n := N) (by omega)).1
      have han2 : (an : Int) < N := by have := (pickI_lt (c := fi) (n := N) (by omega)).2; omega
      obtain ⟨bn, hbn⟩ := Int.eq_ofNat_of_zero_le (pickI_lt (c := bl) (n := N - (an : Int)) (by omega)).1
      have hbn2 : (bn : Int) < N - (an : Int) := by have := (pickI_lt (c := bl) (n := N - (an : Int)) (by omega)).2; omega
      obtain ⟨xn, hxn⟩ := Int.eq_ofNat_of_zero_le (pickI_lt (c := fr) (n := ((bn : Int) + 1) * 512 + 1) (by omega)).1
      have hxn2 : (xn : Int) < ((bn : Int) + 1) * 512 + 1 := by have := (pickI_lt (c := fr) (n := ((bn : Int) + 1) * 512 + 1) (by omega)).2; omega
      obtain ⟨yn, hyn⟩ := Int.eq_ofNat_of_zero_le (pickI_lt (c := sz) (n := ((bn : Int) + 1) * 512 - (xn : Int) + 1) (by omega)).1
      have hyn2 : (yn : Int) < ((bn : Int) + 1) * 512 - (xn : Int) + 1 := by have := (pickI_lt (c := sz) (n := ((bn : Int) + 1) * 512 - (xn : Int) + 1) (by omega)).2; omega
      have HP1 := Lib.hid (show Calls Try.prog 19 #[.int .i64 fi, .int .i64 N] wr (fun e w'' => e = .returned (.int .i64 (an : Int)) ∧ wr = w'') from by have := pick_any fi N wr hfi (by omega) (by omega); rwa [han] at this)
      have HP2 := Lib.hid (show Calls Try.prog 19 #[.int .i64 bl, .int .i64 (N - (an : Int))] wr (fun e w'' => e = .returned (.int .i64 (bn : Int)) ∧ wr = w'') from by have := pick_any bl (N - (an : Int)) wr hbl (by omega) (by omega); rwa [hbn] at this)
      have HP3 := Lib.hid (show Calls Try.prog 19 #[.int .i64 fr, .int .i64 (((bn : Int) + 1) * 512 + 1)] wr (fun e w'' => e = .returned (.int .i64 (xn : Int)) ∧ wr = w'') from by have := pick_any fr (((bn : Int) + 1) * 512 + 1) wr hfr (by omega) (by omega); rwa [hxn] at this)
      have HP4 := Lib.hid (show Calls Try.prog 19 #[.int .i64 sz, .int .i64 (((bn : Int) + 1) * 512 - (xn : Int) + 1)] wr (fun e w'' => e = .returned (.int .i64 (yn : Int)) ∧ wr = w'') from by have := pick_any sz (((bn : Int) + 1) * 512 - (xn : Int) + 1) wr hsz (by omega) (by omega); rwa [hyn] at this)
      clear hIB han hbn hxn hyn hik
      go_wp2_with (go_at_call 19; first | ((with_reducible refine HP1.out.mono ?_); rintro e w9 ⟨rfl, rfl⟩) | ((with_reducible refine HP2.out.mono ?_); rintro e w9 ⟨rfl, rfl⟩) | ((with_reducible refine HP3.out.mono ?_); rintro e w9 ⟨rfl, rfl⟩) | ((with_reducible refine HP4.out.mono ?_); rintro e w9 ⟨rfl, rfl⟩))
      clear HP1 HP2 HP3 HP4
      clear k1
      obtain ⟨wo, hwo⟩ : ∃ wo : World, wr = wo := ⟨_, rfl⟩
      rw [hwo] at HF HM HX HB
      try rw [hwo]
      clear hwo
      go_loopw [16, 17] (fun v16 v17 wr => ∃ (j : Nat) (aa : Option Addr) (cq : Nat), v17 = .int .i64 j ∧ v16 = .slice aa (512 * j) cq ∧ j ≤ bn + 1 ∧ wr.ownsRow w.heap.size 5 1 (.slice aa (512 * j) cq) (512 * j) (bytesV (spanL c (an : Int) 0 (512 * j))) ∧ FlB wr f mb N true 0 false (i : Int) ∧ MAt wr mb m hs c ∧ Below w.heap.size w wr) (fun _ v17 _ => bn + 1 - (intOf v17).toNat)
      case atStart => exact ⟨0, none, 0, rfl, rfl, Nat.zero_le _, ⟨rfl, .inl ⟨rfl, rfl⟩⟩, HF.out, HM.out, HB.out⟩
      case round =>
        clear HF HM HX HB
        obtain ⟨j, aa, cq, rfl, rfl, hj, hO, hF, hM, hB⟩ := hrel
        have HO := Lib.hid hO
        have HF := Lib.hid hF
        have HM := Lib.hid hM
        have HB := Lib.hid hB
        clear hO hF hM hB
        by_cases hjb : j < bn + 1
        · have hj2 : (j : Int) < (bn : Int) + 1 := by omega
          have hj3 : (an : Int) + (j : Int) ≤ 40 := by omega
          have HR := Lib.hid (read_ok f mb m N 0 _ ((an : Int) + (j : Int)) false hs c wr HF.out HM.out (by omega) (by omega) (by omega))
          unfold ReadIs at HR
          have HST := Lib.hid (span_next c HIB.out (an : Int) j)
          obtain ⟨l, hl⟩ : ∃ l, c ((an : Int) + (j : Int)) = l := ⟨_, rfl⟩
          have HLB := Lib.hid (show IsB l from hl ▸ HIB.out _)
          rw [hl] at HR HST
          clear hl
          go_wp2_with fail
          refine HR.out.mono ?_
          rintro e w4 ⟨q, rfl, hq, hbq, hb4⟩
          have HO4 := Lib.hid (own_below HO.out hb4)
          have HF4 := Lib.hid (HF.out.gr hb4)
          have HM4 := Lib.hid (HM.out.gr hb4)
          have HB4 := Lib.hid (HB.out.trans (hb4.mono HB.out.size))
          have HQ4 := Lib.hid (bin_blk hbq HLB.out)
          have hsz4 := HB4.out.size
          clear hq hbq hb4 HR HO HF HM HB
          go_wp2_with (refine wpList_append_bytes w4 rfl (.tmp 114) (.tmp 115) rfl w.heap.size _ (512 * j) _ rfl HO4.out (some ⟨q, 0, none⟩) 512 512 l rfl HQ4.out (by omega) hsz4 ?_)
          intro v5 w5 ho5 hg5
          rw [HST.out, show 512 * j + 512 = 512 * (j + 1) by omega] at ho5
          obtain ⟨aa2, cp2, rfl, _, _⟩ := own_in ho5 (spanL_lt HIB.out _ _ _) (by omega)
          have hown : ∀ q1, (Value.slice aa (512 * j) cq).ownBlock = some q1 → w.heap.size ≤ q1 := fun q1 h => own_ge HO4.out h
          have hfo : some f ≠ (Value.slice aa (512 * j) cq).ownBlock := fun e => by
            rcases HO4.out.2 with ⟨h1, _⟩ | ⟨g1, c1, c2, h1, _, h2, _⟩
            · rw [h1] at e; cases e
            · rw [h1] at e
              have e2 : f = g1 := Option.some.inj e
              subst e2
              have h3 : Blk w4 f 68 _ := HF4.out
              unfold Blk at h3; rw [h3] at h2
              simp only [Option.some.injEq, Obj.cells.injEq] at h2
              exact absurd h2.2.1 (by decide)
          have hmo : some mb ≠ (Value.slice aa (512 * j) cq).ownBlock := fun e => by
            rcases HO4.out.2 with ⟨h1, _⟩ | ⟨g1, c1, c2, h1, _, h2, _⟩
            · rw [h1] at e; cases e
            · rw [h1] at e
              have e2 : mb = g1 := Option.some.inj e
              subst e2
              obtain ⟨D, ⟨es, clock, hb, _⟩, _⟩ := HM4.out
              rw [hb] at h2; cases h2
          have HO5 := Lib.hid ho5
          have HF5 := Lib.hid (show FlB w5 f mb N true 0 false (i : Int) from Blk.grown HF4.out hg5 hfo)
          have HM5 := Lib.hid (HM4.out.grown hg5 hmo)
          have HB5 := Lib.hid (show Below w.heap.size w w5 from ⟨hg5.os.trans HB4.out.os, hg5.tape.trans HB4.out.tape, hg5.output.trans HB4.out.output, Nat.le_trans HB4.out.size hg5.size, fun j hj => (hg5.block j (Nat.lt_of_lt_of_le hj HB4.out.size) (fun e => by have := hown j e.symm; omega)).trans (HB4.out.block j hj)⟩)
          clear ho5 hg5 hown hfo hmo HO4 HF4 HM4 HB4 HQ4 HST
          go_wp2_with fail
          go_roundw
          case rel => exact ⟨j + 1, _, _, by go_num, rfl, by omega, HO5.out, HF5.out, HM5.out, HB5.out⟩
          case measure => simp [intOf]; omega
        · have hj2 : ¬ (j : Int) < (bn : Int) + 1 := by omega
          go_wp2_with fail
          obtain rfl : j = bn + 1 := by omega
          have eb : ((bn + 1 : Nat) : Int) = (bn : Int) + 1 := by omega
          have HS1 := Lib.hid (span_ok f mb m N 0 _ (an : Int) (bn + 1) xn yn false hs c wr HF.out HM.out (by omega) (by omega) (by omega) (by omega) (by omega) (by omega))
          rw [eb] at HS1
          unfold SpanIs at HS1
          rw [spanL_length] at HS1
          clear hjb eb
          refine HS1.out.mono ?_
          rintro e w4 ⟨a4, c4, rfl, ho4, hb4⟩
          have HS4 := Lib.hid (own_in ho4 (spanL_lt HIB.out _ _ _) (by omega))
          have HF4 := Lib.hid (HF.out.gr hb4)
          have HM4 := Lib.hid (HM.out.gr hb4)
          have HB4 := Lib.hid (HB.out.trans (hb4.mono HB.out.size))
          have HA4 := Lib.hid (own_in (own_below HO.out hb4) (spanL_lt HIB.out _ _ _) (by omega))
          clear ho4 hb4 HS1 HF HM HB HO
          obtain ⟨a5, c5, e5, hbS, _⟩ := HS4.out
          injection e5 with e51 e52 e53
          subst e51 e53
          obtain ⟨a6, c6, e6, hbA, _⟩ := HA4.out
          injection e6 with e61 e62 e63
          subst e61 e63
          obtain ⟨z, hz⟩ := Int.eq_ofNat_of_zero_le (show 0 ≤ 512 * ((bn : Int) + 1) - (xn : Int) + 1 by omega)
          have eb : ((bn + 1 : Nat) : Int) = (bn : Int) + 1 := by omega
          have HS2 := Lib.hid (show Calls Try.prog 26 #[.pointer (some ⟨f, 0, none⟩), .int .i64 (an : Int), .int .i64 ((bn : Int) + 1), .int .u64 (xn : Int), .int .u64 (512 * ((bn : Int) + 1) - (xn : Int) + 1)] w4 (fun e w'' => e = .returned (.tuple #[.slice none 0 0, .int .i64 142]) ∧ w4 = w'') from by rw [hz, ← eb]; exact span_size f mb N 0 _ (an : Int) (bn + 1) xn z false w4 HF4.out (by omega) (by omega) (by omega) (by omega) (by omega) (by omega))
          obtain ⟨a7, hsl, hb7⟩ := slice_bin (x := xn) (y := yn) hbA (by omega) (by omega) w4
          rw [span_part c (an : Int) xn yn (512 * (bn + 1)) (by omega)] at hb7
          have HSA := Lib.hid (sameB_any w4 _ _ _ _ _ _ _ _ hbS hb7)
          rw [decide_eq_true (Eq.refl (spanL c (an : Int) xn yn))] at HSA
          clear hbS hbA hb7 hz eb HS4 HA4 e52 e62
          go_wp2_with (first | (go_at_call 26; refine HS2.out.mono ?_; rintro e w9 ⟨rfl, rfl⟩) | (go_at_call 25; (with_reducible refine HSA.out.mono ?_); rintro e w9 ⟨rfl, hb9⟩; have HB9 := Lib.hid (HB4.out.trans (hb9.mono HB4.out.size)); clear hb9))
          go_ret
          exact ⟨rfl, HB9.out⟩
end Go.Proofs.Ytlgpaglkhgomiaa
