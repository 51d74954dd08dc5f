/- Objects' items: OfOID, the project's and the document's. No condition. -/
import Derived.Test.YtbabpmncdphnjaaFo
import Derived.Test.YtbabpmncdphnjaaRt
namespace Go.Proofs.Ytbabpmncdphnjaa
open Go.RowKit
set_option linter.unusedVariables false
set_option maxRecDepth 100000
set_option linter.unusedSimpArgs false

theorem figs_take (F : List Nat) (q : Nat) (h : q < F.length) : figs (F.take (q + 1)) = figs (F.take q) ++ fig (F.getD q 0) := by
  rw [take_snoc F q h]; simp [figs]
theorem figs_len {F : List Nat} (h : ∀ v ∈ F, v ≤ 4294967295) : (figs F).length ≤ 5 * F.length := by
  induction F with
  | nil => simp [figs]
  | cons v F ih =>
    rw [figs_cons, List.length_append, List.length_cons]
    have := ih (fun u hu => h u (by simp [hu]))
    have := fig_len (h v (by simp))
    omega
/-- what OfOID answers -/
def OfIs (R : Except Nat (List Nat)) (w : World) (e : Ending) (w' : World) : Prop :=
  Below w.heap.size w w' ∧ match R with
  | .error x => e = .returned (.tuple #[.agg #[.int .u8 0, .slice none 0 0, .slice none 0 0], .int .i64 (x : Nat)])
  | .ok b => ∃ a c, e = .returned (.tuple #[itV 6 a b.length c none 0 0, .int .i64 0]) ∧ ItIn w' 6 a c none 0 b .nil
theorem OfIs.err {R : Except Nat (List Nat)} {w w' : World} {x : Nat} (h : R = .error x) (hb : Below w.heap.size w w') : OfIs R w (.returned (.tuple #[.agg #[.int .u8 0, .slice none 0 0, .slice none 0 0], .int .i64 (x : Nat)])) w' := by subst h; exact ⟨hb, rfl⟩
theorem OfIs.good {R : Except Nat (List Nat)} {w w' : World} {b : List Nat} (h : R = .ok b) (hb : Below w.heap.size w w') {a : Option Addr} {n c : Nat} (hn : b.length = n) (hi : BIn w' a n c b) : OfIs R w (.returned (.tuple #[itV 6 a n c none 0 0, .int .i64 0])) w' := by
  subst h hn; exact ⟨hb, a, c, rfl, by decide, hi, KIn.nil _⟩

set_option maxHeartbeats 4000000 in
theorem OfOID_any (w : World) (a : Option Addr) (n c : Nat) (l : List Nat) (hin : WIn w a n c l) : Calls Try.prog 29 #[.slice a n c] w (OfIs (ofE l) w) := by
  have B0 := Lib.hid (Blk.new w 25 [.int .u8 0, .slice none 0 0, .slice none 0 0])
  have BEL := Lib.hid ((Below.refl w.heap.size w).alloc (Nat.le_refl _) (.cells #[.int .u8 0, .slice none 0 0, .slice none 0 0] 25))
  have hs1 : (w.alloc (.cells #[.int .u8 0, .slice none 0 0, .slice none 0 0] 25)).heap.size = w.heap.size + 1 := by simp
  have hC := figures_any (w.alloc (.cells #[.int .u8 0, .slice none 0 0, .slice none 0 0] 25)) a n c l (hin.below BEL.out)
  by_cases hok : oidOk l = true
  · have HC := Lib.hid (hC.mono (fun e w' h => (by
      rcases h.2 with h2 | h2
      · rw [hok] at h2; cases h2.1
      · obtain ⟨a', c', h3, h4⟩ := h2.2; exact ⟨a', c', h3, h4, h.1⟩ : ∃ a' c', e = .returned (.tuple #[.slice a' (fl l).length c', .bool true]) ∧ WIn w' a' (fl l).length c' (fl l) ∧ Below (w.alloc (.cells #[.int .u8 0, .slice none 0 0, .slice none 0 0] 25)).heap.size (w.alloc (.cells #[.int .u8 0, .slice none 0 0, .slice none 0 0] 25)) w')))
    have HX := Lib.hid (show ofE l = .ok (figs (fl l)) by simp only [ofE]; rw [if_pos hok])
    have hF := oidOk_fl hok
    have hfm := hF.2.2.1
    have hf19 := hF.2.1
    have HFM := Lib.hid hfm
    clear hC hF hfm hin
    obtain ⟨F, hfl⟩ : ∃ F, fl l = F := ⟨_, rfl⟩
    rw [hfl] at HC HX HFM hf19
    clear hfl
    obtain ⟨m, hm⟩ : ∃ m, F.length = m := ⟨_, rfl⟩
    have HM := Lib.hid hm
    rw [hm] at HC hf19
    clear hm
    go_enter Try.func29, Try.ntmps29
    go_wp2_with (go_at_call 60; refine HC.out.mono ?_; rintro e w1 ⟨a1, c1, rfl, hw1, hb1⟩; have HW := Lib.hid hw1; have HB := Lib.hid (B0.out.below' hb1); have H1 := Lib.hid (BEL.out.trans (hb1.mono BEL.out.size)); have hsz := hb1.size; clear hw1)
    have hs2 : w.heap.size + 1 ≤ w1.heap.size := by rw [hs1] at hsz; exact hsz
    have HS2 := Lib.hid hs2
    clear hsz hs2 hs1 hb1
    go_loopw [5, 7, 18] (fun b f i wr => ∃ q, q ≤ m ∧ i = .int .i64 (q : Nat) ∧ wr.ownsRow w1.heap.size 5 1 b (figs (F.take q)).length (bytesV (figs (F.take q))) ∧ Below w1.heap.size w1 wr) (fun _ _ i _ => m - (intOf i).toNat)
    case atStart => exact ⟨0, Nat.zero_le _, rfl, World.ownsRow_nil _ _ _ _, Below.refl _ _⟩
    case round =>
      obtain ⟨q, hq, rfl, hown, hbel⟩ := hrel
      have HO := Lib.hid hown
      have HBL := Lib.hid hbel
      have HWR := Lib.hid (HW.out.below hbel)
      have hlq : (figs (F.take q)).length ≤ 200 := by
        have h1 := figs_len (F := F.take q) (fun v hv => HFM.out v (List.mem_of_mem_take hv))
        have h2 : (F.take q).length ≤ q := by simp; omega
        omega
      obtain ⟨ab, cb, rfl⟩ := own_slice hown
      clear hown hbel
      by_cases hqm : q < m
      · have hqi : (q : Int) < (m : Int) := by omega
        have hxm := HFM.out (F.getD q 0) (by rw [List.getD_eq_getElem?_getD, List.getElem?_eq_getElem (by rw [HM.out]; exact hqm)]; exact List.getElem_mem _)
        obtain ⟨B5, o5, rfl, hc5⟩ := HWR.out.2.2.2.2.2.2.resolve_left (by omega)
        have cq := hc5 q hqm
        have HT := Lib.hid (figs_take F q (by rw [HM.out]; exact hqm))
        have H8 := Lib.hid (fig_lt (F.getD q 0))
        have h5 := fig_len hxm
        have HG := Lib.hid (fun W => groups_any W (F.getD q 0) hxm)
        clear hc5 hxm
        generalize F.getD q 0 = y at *
        obtain ⟨k, hk⟩ : ∃ k, (figs (F.take q)).length = k := ⟨_, rfl⟩
        have HK := Lib.hid hk
        rw [hk] at HO hlq ⊢
        clear hk
        go_wp2_with (first | (go_at_call 61; (refine (HG.out _).mono ?_); rintro e w3 ⟨v3, rfl, ho3, hb3⟩; obtain ⟨a3, c3, rfl⟩ := own_slice ho3; obtain ⟨a3', c3', e3, hi3, _⟩ := own_in ho3 H8.out (by omega); injection e3 with e31 e32 e33; subst e31 e33; have HI3 := Lib.hid hi3; have HB3 := Lib.hid (HBL.out.trans (hb3.mono HBL.out.size)); have HO3 := Lib.hid (own_below HO.out hb3); clear ho3 hi3) | (at_builtin; refine wpList_append_bytes _ rfl (.tmp 22) (.tmp 24) rfl w1.heap.size (.slice ab k cb) k (figs (F.take q)) rfl HO3.out a3 (fig y).length c3 (fig y) rfl HI3.out (by omega) HB3.out.size ?_; intro v4 w4 ho4 hg4))
        have hb4 : Below w1.heap.size w1 w4 := HB3.out.grown hg4 HB3.out.size (fun x hx => (HO3.out.lt x hx).1)
        have e5 : k + (fig y).length = (figs (F.take (q + 1))).length := by rw [HT.out, List.length_append, HK.out]
        rw [e5, ← HT.out] at ho4
        go_roundw
        case rel => exact ⟨q + 1, by omega, by go_num, ho4, hb4⟩
        case measure => simp [intOf]; omega
      · have hqi : ¬ (q : Int) < (m : Int) := by omega
        have HE := Lib.hid (show F.take q = F by rw [List.take_of_length_le (by rw [HM.out]; omega)])
        rw [HE.out] at HO hlq ⊢
        obtain ⟨k, hk⟩ : ∃ k, (figs F).length = k := ⟨_, rfl⟩
        have HK := Lib.hid hk
        rw [hk] at HO hlq ⊢
        have HB2 := Lib.hid (HB.out.below' HBL.out)
        clear hk
        go_wp2_with (first | (refine wpList_store_row (P := Try.prog) rfl 25 (.tmp 2) (.tmp 28) rfl w.heap.size #[.int .u8 6, .slice ab k cb, .slice none 0 0] rfl rfl 25 _ HB2.out info25 rfl (all_item _ _ _ _ _ _ _) ?_))
        have D3 := HB2.out.setRow [.int .u8 6, .slice ab k cb, .slice none 0 0]
        refine bodyPost_ret (results_two Try.results29 _ _ w.heap.size 25 _ (0, 0) _ _ rfl rfl D3 Try.underlying25 rfl info25) rfl ?_
        have hO2 := own_set HO.out HB2.out (by decide) #[.int .u8 6, .slice ab k cb, .slice none 0 0]
        obtain ⟨a5, c5, e5, hin5, _⟩ := own_in hO2 (figs_lt F) (by omega)
        injection e5 with e51 e52 e53
        subst e51 e53
        exact OfIs.good HX.out (below_setRow' (H1.out.trans (HBL.out.mono H1.out.size)) (Nat.le_refl _) _) HK.out hin5
  · have hok2 : oidOk l = false := by simpa using hok
    have HC := Lib.hid (hC.mono (fun e w' h => (by
      rcases h.2 with h2 | h2
      · exact ⟨h2.2, h.1⟩
      · exact absurd h2.1 hok : e = .returned (.tuple #[.slice none 0 0, .bool false]) ∧ Below (w.alloc (.cells #[.int .u8 0, .slice none 0 0, .slice none 0 0] 25)).heap.size (w.alloc (.cells #[.int .u8 0, .slice none 0 0, .slice none 0 0] 25)) w')))
    have HX := Lib.hid (show ofE l = .error 127 by simp only [ofE]; rw [if_neg hok])
    clear hC hok hok2 hin
    go_enter Try.func29, Try.ntmps29
    go_wp2_with (first | (go_at_call 60; refine HC.out.mono ?_; rintro e w1 ⟨rfl, hb1⟩; have HB := Lib.hid (B0.out.below' hb1); have H1 := Lib.hid (BEL.out.trans (hb1.mono BEL.out.size))) | (refine wpList_store_row (P := Try.prog) rfl 25 (.tmp 2) (.tmp 15) rfl w.heap.size #[.int .u8 0, .slice none 0 0, .slice none 0 0] rfl rfl 25 _ HB.out info25 rfl (all_item _ _ _ _ _ _ _) ?_))
    have D3 := HB.out.setRow [.int .u8 0, .slice none 0 0, .slice none 0 0]
    refine bodyPost_ret (results_two Try.results29 _ _ w.heap.size 25 _ (0, 0) _ _ rfl rfl D3 Try.underlying25 rfl info25) rfl ?_
    exact OfIs.err HX.out (below_setRow' H1.out (Nat.le_refl _) _)
end Go.Proofs.Ytbabpmncdphnjaa
