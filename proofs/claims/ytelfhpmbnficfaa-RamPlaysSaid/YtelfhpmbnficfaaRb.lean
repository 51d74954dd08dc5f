/- Which region is the first that ends behind an address: the closure, the search. No condition. -/
import Derived.Test.YtelfhpmbnficfaaRs
import Derived.Test.YtelfhpmbnficfaaGl
import Derived.Shelf.Abstract
namespace Go.Proofs.Ytelfhpmbnficfaa
open Go.RowKit
set_option linter.unusedVariables false
set_option maxRecDepth 100000
set_option linter.unusedSimpArgs false
theorem gcell {W0 w : World} {a : Addr} {v : Value} (h : W0.cell? a = some v) (hb : Gr W0 w) : w.cell? a = some v := (Below.cell hb (World.block_lt_of_cell? _ _ h)).trans h
theorem grange {W0 w : World} {g o : Nat} {cs : List Value} (h : W0.rangeAt g o cs) (hb : Gr W0 w) : w.rangeAt g o cs := range_gr h hb
theorem TOk.efit {t : List Reg} (k : TOk t) {i : Nat} {x : Reg} (h : t[i]? = some x) : EFit x := by have := (k.ok _ _ h).hi; have := (k.ok _ _ h).fit; exact ⟨this, by omega⟩
set_option maxHeartbeats 1600000 in
theorem clo_any (base a : Nat) (m : List Nat) (t : List Reg) (A : Option Addr) (c p i b1 b2 : Nat) (x : Reg) (W0 : World) (hp : PAt W0 base a m t A c) (km : MOk m) (kt : TOk t) (hx : t[i]? = some x) (h1 : W0.cell? ⟨b1, 0, none⟩ = some (.pointer (some ⟨a, 0, none⟩))) (h2 : W0.cell? ⟨b2, 0, none⟩ = some (.int .u64 (p : Nat))) :
    Calls Try.prog 49 #[.int .i64 (i : Nat), .pointer (some ⟨b1, 0, none⟩), .pointer (some ⟨b2, 0, none⟩)] W0 fun e w' => e = .returned (.bool (decide (p < x.b + x.n))) ∧ Below W0.heap.size W0 w' := by
  obtain ⟨g, rfl, _, hr⟩ := hp.reg i x hx
  have ht := hp.tab km
  have HE := Lib.hid (fun w => end_any x w (kt.efit hx))
  have hil : (i : Int) < (t.length : Int) := by have := len_of hx; omega
  have HR := Lib.hid hr
  obtain ⟨q, hq⟩ : ∃ q, x.b + x.n = q := ⟨_, rfl⟩
  rw [hq] at HE ⊢
  generalize t.length = n at *
  have H1 := Lib.hid h1
  have H2 := Lib.hid h2
  have HT := Lib.hid ht
  clear hq hx hr hp kt km h1 h2 ht
  go_enter Try.func49, Try.ntmps49
  go_upto_region 1 with (fail)
  refine wp_region_L (fun w_ => Gr W0 w_) [] [] (by kernel_rfl) (Gr.drew _) ?_
  refine wpAnyL_take (oi := _) (v := _) (fun _ _ hS_ hb_ => Gr.trans hS_ hb_) (i := 0) rfl (by kernel_rfl) (fun _ _ _ h => h) (worldG (by rfl) (by intro w_ hS_; have q0_ := gcell H1.out hS_; go_simp; first | done | with_reducible rfl)) ?_
  try simp only [Act.put, List.getElem_toArray, List.getElem_cons_succ, List.getElem_cons_zero, List.setIfInBounds_toArray, List.set_cons_zero, List.set_cons_succ]
  refine wpAnyL_take (oi := _) (v := _) (fun _ _ hS_ hb_ => Gr.trans hS_ hb_) (i := 1) rfl (by kernel_rfl) (fun _ _ _ h => h) (pureG (by rfl) (by intro w; go_simp; first | done | with_reducible rfl)) ?_
  try simp only [Act.put, List.getElem_toArray, List.getElem_cons_succ, List.getElem_cons_zero, List.setIfInBounds_toArray, List.set_cons_zero, List.set_cons_succ]
  refine wpAnyL_take (oi := _) (v := _) (fun _ _ hS_ hb_ => Gr.trans hS_ hb_) (i := 2) rfl (by kernel_rfl) (fun _ _ _ h => h) (pureG (by rfl) (by intro w; go_simp; first | done | with_reducible rfl)) ?_
  try simp only [Act.put, List.getElem_toArray, List.getElem_cons_succ, List.getElem_cons_zero, List.setIfInBounds_toArray, List.set_cons_zero, List.set_cons_succ]
  refine wpAnyL_take (oi := _) (v := _) (fun _ _ hS_ hb_ => Gr.trans hS_ hb_) (i := 3) rfl (by kernel_rfl) (fun _ _ _ h => h) (worldG (by rfl) (by intro w_ hS_; have q0_ := gcell HT.out hS_; go_simp; first | done | with_reducible rfl)) ?_
  try simp only [Act.put, List.getElem_toArray, List.getElem_cons_succ, List.getElem_cons_zero, List.setIfInBounds_toArray, List.set_cons_zero, List.set_cons_succ]
  refine wpAnyL_take (oi := _) (v := _) (fun _ _ hS_ hb_ => Gr.trans hS_ hb_) (i := 4) rfl (by kernel_rfl) (fun _ _ _ h => h) (pureG (by rfl) (by intro w; go_simp; first | done | with_reducible rfl)) ?_
  try simp only [Act.put, List.getElem_toArray, List.getElem_cons_succ, List.getElem_cons_zero, List.setIfInBounds_toArray, List.set_cons_zero, List.set_cons_succ]
  refine wpAnyL_take (oi := _) (v := _) (fun _ _ hS_ hb_ => Gr.trans hS_ hb_) (i := 5) rfl (by kernel_rfl) (fun _ _ _ h => h) (pureG (by rfl) (by intro w; go_simp; first | done | with_reducible rfl)) ?_
  try simp only [Act.put, List.getElem_toArray, List.getElem_cons_succ, List.getElem_cons_zero, List.setIfInBounds_toArray, List.set_cons_zero, List.set_cons_succ]
  refine wpAnyL_take (oi := _) (v := _) (fun _ _ hS_ hb_ => Gr.trans hS_ hb_) (i := 6) rfl (by kernel_rfl) (fun _ _ _ h => h) (loadG (by rfl) 67 (.tmp 10) rfl (g) (i * 7) rfl (regP x) _ (fun w_ hS_ => grange (HR.out) hS_) Try.underlying67 rfl (by rw [info67]; rfl)) ?_
  try simp only [Act.put, List.getElem_toArray, List.getElem_cons_succ, List.getElem_cons_zero, List.setIfInBounds_toArray, List.set_cons_zero, List.set_cons_succ]
  refine wpAnyL_take (oi := _) (v := _) (fun _ _ hS_ hb_ => Gr.trans hS_ hb_) (i := 7) rfl (by kernel_rfl) (fun _ _ _ h => h) (callG (by rfl) rfl Try.func38 (by kernel_rfl) (by kernel_rfl) #[.agg (regP x).toArray] (by simp [Act.eval]) (fun w_ hS_ => HE.out w_)) ?_
  try simp only [Act.put, List.getElem_toArray, List.getElem_cons_succ, List.getElem_cons_zero, List.setIfInBounds_toArray, List.set_cons_zero, List.set_cons_succ]
  refine wpAnyL_take (oi := _) (v := _) (fun _ _ hS_ hb_ => Gr.trans hS_ hb_) (i := 8) rfl (by kernel_rfl) (fun _ _ _ h => h) (worldG (by rfl) (by intro w_ hS_; have q0_ := gcell H2.out hS_; go_simp; first | done | with_reducible rfl)) ?_
  try simp only [Act.put, List.getElem_toArray, List.getElem_cons_succ, List.getElem_cons_zero, List.setIfInBounds_toArray, List.set_cons_zero, List.set_cons_succ]
  refine wpAnyL_take (oi := _) (v := _) (fun _ _ hS_ hb_ => Gr.trans hS_ hb_) (i := 9) rfl (by kernel_rfl) (fun _ _ _ h => h) (pureG (by rfl) (by intro w; go_simp; first | done | with_reducible rfl)) ?_
  try simp only [Act.put, List.getElem_toArray, List.getElem_cons_succ, List.getElem_cons_zero, List.setIfInBounds_toArray, List.set_cons_zero, List.set_cons_succ]
  refine wpAnyL_take (oi := _) (v := _) (fun _ _ hS_ hb_ => Gr.trans hS_ hb_) (i := 10) rfl (by kernel_rfl) (fun _ _ _ h => h) (pureG (by rfl) (by intro w; go_simp; first | done | with_reducible rfl)) ?_
  try simp only [Act.put, List.getElem_toArray, List.getElem_cons_succ, List.getElem_cons_zero, List.setIfInBounds_toArray, List.set_cons_zero, List.set_cons_succ]
  refine wpAnyL_done (by kernel_rfl) (fun WA hWA => ?_) _
  have HB := Lib.hid (show Below W0.heap.size W0 WA from (Gr.drew W0).trans hWA)
  clear hWA
  go_wp2_with fail
  go_ret
  exact ⟨by simp, HB.out⟩
/-- what a search finds -/
def SrIs (n : Nat) (p : Nat → Bool) (w : World) (e : Ending) (w' : World) : Prop := ∃ i : Nat, e = .returned (.int .i64 (i : Nat)) ∧ i ≤ n ∧ (∀ j, j < i → p j = false) ∧ (∀ j, i ≤ j → j < n → p j = true) ∧ Below w.heap.size w w'
set_option maxHeartbeats 1600000 in
theorem search_any (n : Nat) (p : Nat → Bool) (cb : Array Value) (w : World) (hn : n ≤ 16) (hf : ∀ W i, Below w.heap.size w W → i < n → Calls Try.prog 49 (#[.int .i64 (i : Nat)] ++ cb) W fun e w' => e = .returned (.bool (p i)) ∧ Below W.heap.size W w')
    (hm : ∀ a b, a ≤ b → b < n → p a = true → p b = true) : Calls Try.prog 48 #[.int .i64 (n : Nat), .func (.func 49) #[] cb] w (SrIs n p w) := by
  have eg : ∀ args w, (callFunc 49 args).run Try.prog w = .ok (.enter 49 args) w := fun args w => run_call_in Try.func49 (by kernel_rfl) (by kernel_rfl) args w
  have HF := Lib.hid hf
  have HM := Lib.hid hm
  clear hf hm
  go_enter Try.func48, Try.ntmps48
  go_wp2
  go_loopw [5, 6] (fun v5 v6 wr => ∃ (lo hi : Nat), v5 = .int .i64 (lo : Nat) ∧ v6 = .int .i64 (hi : Nat) ∧ lo ≤ hi ∧ hi ≤ n ∧ (∀ j, j < lo → p j = false) ∧ (∀ j, hi ≤ j → j < n → p j = true) ∧ Below w.heap.size w wr) (fun v5 v6 _ => (intOf v6).toNat - (intOf v5).toNat)
  case atStart => exact ⟨0, n, rfl, rfl, Nat.zero_le _, Nat.le_refl _, fun j hj => by omega, fun j h1 h2 => by omega, Below.refl _ _⟩
  case round =>
    obtain ⟨lo, hi, rfl, rfl, hlh, hin, hlow, hhigh, hbl⟩ := hrel
    have HL := Lib.hid hlow
    have HH := Lib.hid hhigh
    have HB := Lib.hid hbl
    clear hlow hhigh hbl
    by_cases hlt : lo < hi
    · have hc := HF.out wr ((lo + hi) / 2) HB.out (by omega)
      obtain ⟨md, hmd⟩ : ∃ md, (lo + hi) / 2 = md := ⟨_, rfl⟩
      have hmi : ((lo : Int) + (hi : Int)) / 2 = (md : Int) := by omega
      rw [hmd] at hc
      have hq1 : lo ≤ md := by omega
      have hq2 : md < hi := by omega
      have hlt' : (lo : Int) < (hi : Int) := by omega
      clear hmd
      cases hp : p md <;> rw [hp] at hc <;> have HP := Lib.hid hp <;> have HC := Lib.hid hc <;> clear hp hc
      · go_wp2_with (go_at_fn 49; refine HC.out.mono ?_; rintro e w' ⟨rfl, hb2⟩)
        have HB2 := Lib.hid (HB.out.trans (hb2.mono HB.out.size))
        clear hb2
        go_roundw
        case rel => exact ⟨md + 1, hi, by go_num, rfl, by omega, hin, fun j hj => (by
            cases h : p j with
            | false => rfl
            | true => have := HM.out j md (by omega) (by omega) h; rw [HP.out] at this; cases this), HH.out, HB2.out⟩
        case measure => simp [intOf]; omega
      · go_wp2_with (go_at_fn 49; refine HC.out.mono ?_; rintro e w' ⟨rfl, hb2⟩)
        have HB2 := Lib.hid (HB.out.trans (hb2.mono HB.out.size))
        clear hb2
        go_roundw
        case rel => exact ⟨lo, md, rfl, rfl, hq1, by omega, HL.out, fun j h1 h2 => HM.out md j h1 h2 HP.out, HB2.out⟩
        case measure => simp [intOf]; omega
    · obtain rfl : hi = lo := by omega
      clear hlt hlh
      go_wp2
      go_ret
      exact ⟨hi, rfl, hin, HL.out, HH.out, HB.out⟩
set_option maxHeartbeats 1600000 in
theorem behind_any (base a : Nat) (m : List Nat) (t : List Reg) (A : Option Addr) (c p : Nat) (w : World) (hp : PAt w base a m t A c) (km : MOk m) (kt : TOk t) :
    Calls Try.prog 34 #[.pointer (some ⟨a, 0, none⟩), .int .u64 (p : Nat)] w fun e w' => e = .returned (.int .i64 (bh t p : Nat)) ∧ Below w.heap.size w w' := by
  have hl := kt.len
  have HT := Lib.hid (hp.tab km)
  have HKM := Lib.hid km
  have HKT := Lib.hid kt
  have HP := Lib.hid hp
  have HU := Lib.hid (bh_uniq t p)
  clear hp km kt
  obtain ⟨q, hq⟩ : ∃ q, bh t p = q := ⟨_, rfl⟩
  have HQ := Lib.hid hq
  rw [hq]
  clear hq
  obtain ⟨n, hn⟩ : ∃ n, t.length = n := ⟨_, rfl⟩
  have ht := HT.out
  rw [hn] at ht hl
  have HN := Lib.hid hn
  clear hn
  have hgr : Gr w ((w.alloc (.cells #[.pointer (some ⟨a, 0, none⟩)] 23)).alloc (.cells #[.int .u64 (p : Nat)] 32)) := (Gr.alloc _ _).trans (Gr.alloc _ _)
  have ht2 := gcell ht hgr
  have hb1 : ((w.alloc (.cells #[.pointer (some ⟨a, 0, none⟩)] 23)).alloc (.cells #[.int .u64 (p : Nat)] 32)).cell? ⟨w.heap.size, 0, none⟩ = some (.pointer (some ⟨a, 0, none⟩)) := ((Blk.new w 23 [.pointer (some ⟨a, 0, none⟩)]).alloc _).cell 0
  have hb2 : ((w.alloc (.cells #[.pointer (some ⟨a, 0, none⟩)] 23)).alloc (.cells #[.int .u64 (p : Nat)] 32)).cell? ⟨w.heap.size + 1, 0, none⟩ = some (.int .u64 (p : Nat)) := (Blk.new2 w _ 32 [.int .u64 (p : Nat)]).cell 0
  obtain ⟨w2, hw2⟩ : ∃ w2, (w.alloc (.cells #[.pointer (some ⟨a, 0, none⟩)] 23)).alloc (.cells #[.int .u64 (p : Nat)] 32) = w2 := ⟨_, rfl⟩
  rw [hw2] at hgr hb1 hb2
  have HGR := Lib.hid hgr
  have HW2 := Lib.hid hw2
  have HS := Lib.hid (search_any n (fun i => match t[i]? with | some x => decide (p < x.b + x.n) | none => true) #[.pointer (some ⟨w.heap.size, 0, none⟩), .pointer (some ⟨w.heap.size + 1, 0, none⟩)] w2 hl (fun W i hW hi => by
      obtain ⟨x, hx⟩ := ent (t := t) (j := i) (by rw [HN.out]; exact hi)
      have := clo_any base a m t A c p i w.heap.size (w.heap.size + 1) x W ((HP.out.bel hgr).bel hW) HKM.out HKT.out hx (gcell hb1 hW) (gcell hb2 hW)
      rw [hx]
      exact this) (fun i j hij hj h => by
      obtain ⟨x, hx⟩ := ent (t := t) (j := i) (by rw [HN.out]; omega)
      obtain ⟨y, hy⟩ := ent (t := t) (j := j) (by rw [HN.out]; omega)
      rw [hx] at h
      rw [hy]
      have h := of_decide_eq_true h
      by_cases he : i = j
      · subst he; rw [hx] at hy; injection hy with hy; subst hy; exact decide_eq_true h
      · have := HKT.out.so _ _ _ _ hx hy (by omega)
        have := (HKT.out.ok _ _ hy).pos
        exact decide_eq_true (by omega)))
  clear hgr hb1 hb2 hw2 ht
  go_enter Try.func34, Try.ntmps34
  go_wp2_with fail
  try rw [HW2.out]
  refine HS.out.mono ?_
  rintro e w3 ⟨i, rfl, hi, h1, h2, hb3⟩
  have HIQ : Hid (i = q) := Lib.hid (by
    rw [← HQ.out]
    refine (HU.out i (by rw [HN.out]; exact hi) (fun j x hx hj => ?_) (fun hi2 => ?_)).symm
    · have := h1 j hj
      simp only [hx] at this
      have := of_decide_eq_false this
      omega
    · obtain ⟨x, hx⟩ := ent hi2
      refine ⟨x, hx, ?_⟩
      have := h2 i (Nat.le_refl _) (by rw [← HN.out]; exact hi2)
      simp only [hx] at this
      exact of_decide_eq_true this)
  have HB3 := Lib.hid (show Below w.heap.size w w3 from Gr.trans HGR.out hb3)
  clear h1 h2 hb3 hi
  go_wp2_with fail
  go_ret
  exact ⟨by rw [HIQ.out]; rfl, HB3.out⟩
end Go.Proofs.Ytelfhpmbnficfaa
