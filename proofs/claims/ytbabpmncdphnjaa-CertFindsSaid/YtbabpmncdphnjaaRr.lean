/- The document's read. No condition. -/
import Derived.Test.YtbabpmncdphnjaaRa
import Derived.Test.YtbabpmncdphnjaaRl
import Derived.Test.YtbabpmncdphnjaaRt
import Derived.Test.YtbabpmncdphnjaaCp
import Derived.Test.YtbabpmncdphnjaaEn
namespace Go.Proofs.Ytbabpmncdphnjaa
open Go.RowKit
set_option linter.unusedVariables false
set_option maxRecDepth 100000

/-- what the document's read answers -/
def RrIs (R : Except Nat (Nat × List Nat × Tr × List Nat)) (en : Nat) (w : World) (e : Ending) (w' : World) : Prop :=
  Below w.heap.size w w' ∧ match R with
  | .error c => e = .returned (.tuple #[.agg #[.int .u8 0, .slice none 0 0, .slice none 0 0], .int .i64 0, .int .i64 (c : Nat)])
  | .ok (t, b, k, r) => ∃ v1 v2 L, e = .returned (.tuple #[.agg #[.int .u8 (t : Nat), v1, v2], .int .i64 ((en - r.length : Nat) : Int), .int .i64 0]) ∧ OwnV w' w.heap.size (.node t b k .nil) [.int .u8 (t : Nat), v1, v2] L ∧ L.Nodup
theorem RrIs.err {R : Except Nat (Nat × List Nat × Tr × List Nat)} {en c : Nat} {w w' : World} (h : R = .error c) (hb : Below w.heap.size w w') : RrIs R en w (.returned (.tuple #[.agg #[.int .u8 0, .slice none 0 0, .slice none 0 0], .int .i64 0, .int .i64 (c : Nat)])) w' := by subst h; exact ⟨hb, rfl⟩
theorem RrIs.good {R : Except Nat (Nat × List Nat × Tr × List Nat)} {en t : Nat} {b : List Nat} {k : Tr} {r : List Nat} {w w' : World} (h : R = .ok (t, b, k, r)) (hb : Below w.heap.size w w') {v1 v2 : Value} {L : List Nat} {x : Int} (hx : ((en - r.length : Nat) : Int) = x)
    (h1 : OwnV w' w.heap.size (.node t b k .nil) [.int .u8 (t : Nat), v1, v2] L) (h2 : L.Nodup) : RrIs R en w (.returned (.tuple #[.agg #[.int .u8 (t : Nat), v1, v2], .int .i64 x, .int .i64 0])) w' := by subst h hx; exact ⟨hb, v1, v2, L, rfl, h1, h2⟩
theorem results_three {P : Program} {fn : Func} {p q q2 : Tmp} {ty : TypeId} (h : fn.results = #[.cell p ty, .tmp q, .tmp q2]) (tmps : Array Value) (w : World) (g : Nat) (t : TypeId) (cs : Array Value) (fr : Nat × Nat) (d : TypeDesc) (v v2 : Value)
    (hp : tmps.getD p undef = .pointer (some ⟨g, 0, none⟩)) (hv : tmps.getD q undef = v) (hv2 : tmps.getD q2 undef = v2) (hg : w.heap[g]? = some (.cells cs t fr))
    (hu : P.underlying ty = some d) (hd : (match d with | .struct _ | .array _ _ => true | _ => false) = true) (hi : (P.info? ty).map (·.size) = some cs.size) :
    (results fn tmps).run P w = .ok (.tuple #[.agg cs, v, v2]) w := by
  have hp' : tmps[p]?.getD undef = .pointer (some ⟨g, 0, none⟩) := by simpa using hp
  have hv' : tmps[q]?.getD undef = v := by simpa using hv
  have hv2' : tmps[q2]?.getD undef = v2 := by simpa using hv2
  simp [results, h, hp', hv', hv2', asAddr, run_loadVar_row w g t ty cs fr d hg hu hd hi]

theorem refLen_bad {l M : List Nat} {x : Nat} (h : lenE M = .error x) (w : World) (a : Option Addr) (n c : Nat) (hin : BIn w a n c l) (p en : Nat) (he : en ≤ n) (hn : n ≤ 1048576) (hp : p ≤ 1048576) (hM : (l.take en).drop p = M) :
    Calls Try.prog 81 #[.slice a n c, .int .i64 (p : Nat), .int .i64 (en : Nat)] w fun e w' => e = .returned (.tuple #[.int .i64 0, .int .i64 0, .int .i64 (x : Nat)]) ∧ Below w.heap.size w w' := by
  refine (refLen_any w a n c l hin p en he hn hp).mono fun e w' ⟨h1, h2⟩ => ?_
  rw [hM, h] at h2; exact ⟨h2, h1⟩
theorem refLen_good {l M : List Nat} {v : Nat} {r : List Nat} (h : lenE M = .ok (v, r)) (w : World) (a : Option Addr) (n c : Nat) (hin : BIn w a n c l) (p en : Nat) (he : en ≤ n) (hn : n ≤ 1048576) (hp : p ≤ 1048576) (hM : (l.take en).drop p = M) :
    Calls Try.prog 81 #[.slice a n c, .int .i64 (p : Nat), .int .i64 (en : Nat)] w fun e w' => e = .returned (.tuple #[.int .i64 (v : Nat), .int .i64 ((en - r.length : Nat) : Int), .int .i64 0]) ∧ Below w.heap.size w w' := by
  refine (refLen_any w a n c l hin p en he hn hp).mono fun e w' ⟨h1, h2⟩ => ?_
  rw [hM, h] at h2; exact ⟨h2, h1⟩

set_option maxRecDepth 10000 in
theorem lenE_suffix {l : List Nat} {v : Nat} {r : List Nat} (h : lenE l = .ok (v, r)) : r <:+ l := by
  cases l with
  | nil => simp [lenE] at h
  | cons f b =>
    simp only [lenE] at h
    repeat' (split at h)
    all_goals (cases h <;> first | exact List.suffix_cons _ _ | exact (List.drop_suffix _ _).trans (List.suffix_cons _ _))
/-- what lies behind a length is a window again -/
theorem lenE_win {l y : List Nat} {p en v fr : Nat} {r : List Nat} (hy : (l.take en).drop (p + 1) = y) (h : lenE y = .ok (v, r)) (hl : en ≤ l.length) (hfr : fr + r.length = en) (hyl : y.length = en - (p + 1)) (hrl : r.length < y.length) : r = (l.take en).drop fr := by
  have h1 := List.suffix_iff_eq_drop.1 (lenE_suffix h)
  obtain ⟨z, hz⟩ : ∃ z, y.length - r.length = z := ⟨_, rfl⟩
  rw [hz, ← hy, List.drop_drop, show p + 1 + z = fr by omega] at h1
  exact h1
theorem win_take {l : List Nat} {en fr v : Nat} (h : fr + v ≤ en) : ((l.take en).drop fr).take v = (l.drop fr).take v := by
  rw [List.drop_take, List.take_take, Nat.min_eq_left (by omega)]
theorem rd_suffix : ∀ (f d : Nat) (l : List Nat) {t b k r}, rd f d l = .ok (t, b, k, r) → r <:+ l := by
  intro f d l t b k r h
  cases f with
  | zero => simp [rd] at h
  | succ f =>
    cases l with
    | nil => simp only [rd] at h; split at h <;> simp at h
    | cons x y =>
      simp only [rd] at h
      split at h
      · simp at h
      · split at h
        · simp at h
        · cases hl : lenE y with
          | error e => rw [hl] at h; simp at h
          | ok p =>
            obtain ⟨n, c⟩ := p
            rw [hl] at h
            have hs := (lenE_suffix hl).trans (List.suffix_cons x y)
            simp only at h
            split at h
            · simp at h
            · split at h
              · split at h
                · simp at h
                · simp at h; obtain ⟨_, _, _, rfl⟩ := h; exact (List.drop_suffix _ _).trans hs
              · simp at h; obtain ⟨_, _, _, rfl⟩ := h; exact (List.drop_suffix _ _).trans hs
/-- what lies behind an item is a window again -/
theorem rd_win {g d : Nat} {l : List Nat} {P E : Nat} {t b k r} (h : rd g d ((l.take E).drop P) = .ok (t, b, k, r)) (hE : E ≤ l.length) (hP : P ≤ E) : r = (l.take E).drop (E - r.length) := by
  have h1 := List.suffix_iff_eq_drop.1 (rd_suffix _ _ _ h)
  have h2 := (rd_suffix _ _ _ h).length_le
  rw [win_len hE, List.drop_drop] at h1
  rw [win_len hE] at h2
  rw [show P + (E - P - r.length) = E - r.length by omega] at h1
  exact h1
theorem rr_bad {R : Except Nat (Nat × List Nat × Tr × List Nat)} {x en : Nat} (h : R = .error x) {args : Array Value} {w : World} (hc : Calls Try.prog 46 args w (RrIs R en w)) : Calls Try.prog 46 args w fun e w' => e = .returned (.tuple #[.agg #[.int .u8 0, .slice none 0 0, .slice none 0 0], .int .i64 0, .int .i64 (x : Nat)]) ∧ Below w.heap.size w w' := by
  subst h; exact hc.mono fun e w' h => ⟨h.2, h.1⟩
theorem rr_good {R : Except Nat (Nat × List Nat × Tr × List Nat)} {en t : Nat} {b : List Nat} {k : Tr} {r : List Nat} (h : R = .ok (t, b, k, r)) {P : Nat} (hP : en - r.length = P) {args : Array Value} {w : World} (hc : Calls Try.prog 46 args w (RrIs R en w)) : Calls Try.prog 46 args w fun e w' =>
    ∃ v1 v2 L, e = .returned (.tuple #[.agg #[.int .u8 (t : Nat), v1, v2], .int .i64 (P : Nat), .int .i64 0]) ∧ OwnV w' w.heap.size (.node t b k .nil) [.int .u8 (t : Nat), v1, v2] L ∧ L.Nodup ∧ Below w.heap.size w w' := by
  subst h hP; exact hc.mono fun e w' h => by
    obtain ⟨v1, v2, L, h1, h2, h3⟩ := h.2
    exact ⟨v1, v2, L, h1, h2, h3, h.1⟩
theorem ifAt (c fr B off : Nat) : ((if c = fr then some (⟨B, off, none⟩ : Addr) else some ⟨B, off + fr, none⟩) = some ⟨B, off, none⟩ ∧ c = fr) ∨ (if c = fr then some (⟨B, off, none⟩ : Addr) else some ⟨B, off + fr, none⟩) = some ⟨B, off + fr, none⟩ := by
  by_cases h : c = fr
  · rw [if_pos h]; exact .inl ⟨rfl, h⟩
  · rw [if_neg h]; exact .inr rfl
theorem zero_own (w : World) : (w.alloc (.cells #[] 5)).ownsRow w.heap.size 5 1 (.slice (some ⟨w.heap.size, 0, none⟩) 0 0) 0 (bytesV []) := zero_row w

set_option maxRecDepth 100000 in
set_option maxHeartbeats 8000000 in
theorem refRead_step (f : Nat) (l : List Nat) (a : Option Addr) (n c : Nat) (hn : n ≤ 65536)
    (IH : ∀ g, g ≤ f → ∀ (d : Nat) (w : World) (p en : Nat), BIn w a n c l → en ≤ n → (en - p) + 1 ≤ g → p ≤ 1048576 → d ≤ 65536 → Calls Try.prog 46 #[.slice a n c, .int .i64 (p : Nat), .int .i64 (en : Nat), .int .i64 (d : Nat)] w (RrIs (rd g d ((l.take en).drop p)) en w))
    (d : Nat) (w : World) (p en : Nat) (hin : BIn w a n c l) (he : en ≤ n) (hf : (en - p) ≤ f) (hp : p ≤ 1048576) (hd : d ≤ 65536) :
    Calls Try.prog 46 #[.slice a n c, .int .i64 (p : Nat), .int .i64 (en : Nat), .int .i64 (d : Nat)] w (RrIs (rd (f + 1) d ((l.take en).drop p)) en w) := by
  have hln : l.length = n := hin.1.1
  have hb0 : Try.prog.built 25 [] = some #[.int .u8 0, .slice none 0 0, .slice none 0 0] := by kernel_rfl
  have D0 := Lib.hid (Blk.new w 25 [.int .u8 0, .slice none 0 0, .slice none 0 0])
  have H0 := Lib.hid ((Below.refl _ w).alloc (Nat.le_refl _) (.cells #[.int .u8 0, .slice none 0 0, .slice none 0 0] 25))
  by_cases hdp : 16 < d
  · have hdi : (16 : Int) < (d : Int) := by omega
    have hX := Lib.hid (rd_deep f d ((l.take en).drop p) hdp)
    clear hin IH
    go_enter Try.func46, Try.ntmps46
    generalize hW1 : w.alloc (.cells #[.int .u8 0, .slice none 0 0, .slice none 0 0] 25) = W1 at *
    go_wp2_with (refine wpList_store_row (P := Try.prog) rfl 25 (.tmp 8) (.tmp 22) rfl w.heap.size #[.int .u8 0, .slice none 0 0, .slice none 0 0] rfl rfl 25 _ D0.out info25 rfl (all_item _ _ _ _ _ _ _) ?_)
    (refine bodyPost_ret (results_three Try.results46 _ _ w.heap.size 25 _ (0, 0) _ _ _ rfl rfl rfl (D0.out.setRow [.int .u8 0, .slice none 0 0, .slice none 0 0]) Try.underlying25 rfl info25) rfl ?_; exact RrIs.err hX.out (below_setRow' H0.out (Nat.le_refl w.heap.size) #[.int .u8 0, .slice none 0 0, .slice none 0 0]))
  have hdi : ¬ (16 : Int) < (d : Int) := by omega
  by_cases hpe : en ≤ p
  · have hpi : (en : Int) ≤ (p : Int) := by omega
    have hX := Lib.hid (show rd (f + 1) d ((l.take en).drop p) = .error 122 by rw [List.drop_eq_nil_of_le (by simp; omega)]; exact rd_end f d hdp)
    clear hin IH
    go_enter Try.func46, Try.ntmps46
    generalize hW1 : w.alloc (.cells #[.int .u8 0, .slice none 0 0, .slice none 0 0] 25) = W1 at *
    go_wp2_with (refine wpList_store_row (P := Try.prog) rfl 25 (.tmp 8) (.tmp 26) rfl w.heap.size #[.int .u8 0, .slice none 0 0, .slice none 0 0] rfl rfl 25 _ D0.out info25 rfl (all_item _ _ _ _ _ _ _) ?_)
    (refine bodyPost_ret (results_three Try.results46 _ _ w.heap.size 25 _ (0, 0) _ _ _ rfl rfl rfl (D0.out.setRow [.int .u8 0, .slice none 0 0, .slice none 0 0]) Try.underlying25 rfl info25) rfl ?_; exact RrIs.err hX.out (below_setRow' H0.out (Nat.le_refl w.heap.size) #[.int .u8 0, .slice none 0 0, .slice none 0 0]))
  have hpi : ¬ (en : Int) ≤ (p : Int) := by omega
  have hpn : (p : Int) < (n : Int) := by omega
  obtain ⟨B, off, rfl, hc⟩ := hin.1.2.2.2.resolve_left (by omega)
  have hBw : B < w.heap.size := World.block_lt_of_cell? w _ (hc p (by omega))
  have ht : l.getD p 0 < 256 := getD_lt hin.1.2.2.1 p
  have c0 : (w.alloc (.cells #[.int .u8 0, .slice none 0 0, .slice none 0 0] 25)).cell? ⟨B, off + p, none⟩ = some (.int .u8 (l.getD p 0 : Nat)) := (H0.out.cell hBw).trans (hc p (by omega))
  have hW := win_cons (l := l) (p := p) (en := en) (by omega) (by omega)
  have HY := Lib.hid (show ∃ y, y = (l.take en).drop (p + 1) from ⟨_, rfl⟩)
  have HIN := Lib.hid hin
  have IH' := Lib.hid IH
  rw [hW]
  obtain ⟨y, hy⟩ := HY.out
  rw [← hy]
  have HYY := Lib.hid hy.symm
  clear hin hc IH hW HY hy
  generalize l.getD p 0 = t at *
  by_cases htag : t % 32 = 31
  · have hX := Lib.hid (rd_tag f d t y hdp htag)
    have htb : decide (t % 32 = 31) = true := by simp [htag]
    go_enter Try.func46, Try.ntmps46
    generalize hW1 : w.alloc (.cells #[.int .u8 0, .slice none 0 0, .slice none 0 0] 25) = W1 at *
    go_wp2_with (first | (refine wpList_store_row (P := Try.prog) rfl 25 (.tmp 11) (.tmp 31) rfl W1.heap.size #[.int .u8 (t : Nat), .slice none 0 0, .slice none 0 0] rfl rfl 25 _ (Blk.new W1 25 [.int .u8 0, .slice none 0 0, .slice none 0 0]) info25 rfl (all_item _ _ _ _ _ _ _) ?_; have D1 := Lib.hid ((Blk.new W1 25 [.int .u8 0, .slice none 0 0, .slice none 0 0]).setRow [.int .u8 (t : Nat), .slice none 0 0, .slice none 0 0]); have D0 := Lib.hid ((D0.out.alloc (.cells #[.int .u8 0, .slice none 0 0, .slice none 0 0] 25)).row #[.int .u8 (t : Nat), .slice none 0 0, .slice none 0 0] (Nat.ne_of_lt D0.out.lt)); have hs2 : w.heap.size + 1 = W1.heap.size := (by rw [← hW1]; simp); have H0 := Lib.hid (below_setRow' (H0.out.alloc H0.out.size (.cells #[.int .u8 0, .slice none 0 0, .slice none 0 0] 25)) H0.out.size #[.int .u8 (t : Nat), .slice none 0 0, .slice none 0 0]); clear c0; have hz2 : ((W1.alloc (.cells #[.int .u8 0, .slice none 0 0, .slice none 0 0] 25)).setRow W1.heap.size #[.int .u8 (t : Nat), .slice none 0 0, .slice none 0 0]).heap.size = W1.heap.size + 1 := (by simp); clear hW1; generalize ((W1.alloc (.cells #[.int .u8 0, .slice none 0 0, .slice none 0 0] 25)).setRow W1.heap.size #[.int .u8 (t : Nat), .slice none 0 0, .slice none 0 0]) = W2 at *; generalize W1.heap.size = gi at *; have g0 : W2.cell? ⟨gi, 0, none⟩ = some (.int .u8 (t : Nat)) := (by simpa using D1.out.cell 0)) | (go_at_call 80; refine (none_any t ht _).mono ?_; rintro e w' ⟨rfl, rfl⟩) | (refine wpList_store_row (P := Try.prog) rfl 25 (.tmp 8) (.tmp 36) rfl w.heap.size #[.int .u8 0, .slice none 0 0, .slice none 0 0] rfl rfl 25 _ D0.out info25 rfl (all_item _ _ _ _ _ _ _) ?_))
    (refine bodyPost_ret (results_three Try.results46 _ _ w.heap.size 25 _ (0, 0) _ _ _ rfl rfl rfl (D0.out.setRow [.int .u8 0, .slice none 0 0, .slice none 0 0]) Try.underlying25 rfl info25) rfl ?_; exact RrIs.err hX.out (below_setRow' H0.out (Nat.le_refl w.heap.size) #[.int .u8 0, .slice none 0 0, .slice none 0 0]))
  have htb : decide (t % 32 = 31) = false := by simp [htag]
  have hp1 : ((p + 1 : Nat) : Int) = (p : Int) + 1 := by omega
  have HP1 := Lib.hid hp1
  clear hp1
  cases hE : lenE y with
  | error x =>
    have hX := Lib.hid (rd_lenbad f d t y x hdp htag hE)
    have hx0 : x ≠ 0 := by rcases lenE_err hE with h | h <;> omega
    have hxi : ¬ (x : Int) = 0 := by omega
    have HLG : Hid (∀ wx, BIn wx (some ⟨B, off, none⟩) n c l → Calls Try.prog 81 #[.slice (some ⟨B, off, none⟩) n c, .int .i64 ((p : Int) + 1), .int .i64 (en : Nat)] wx fun e w' => e = .returned (.tuple #[.int .i64 0, .int .i64 0, .int .i64 (x : Nat)]) ∧ Below wx.heap.size wx w') :=
      Lib.hid (fun wx h => by have := refLen_bad hE wx _ n c h (p + 1) en he (by omega) (by omega) HYY.out; rwa [HP1.out] at this)
    clear hE hx0
    go_enter Try.func46, Try.ntmps46
    generalize hW1 : w.alloc (.cells #[.int .u8 0, .slice none 0 0, .slice none 0 0] 25) = W1 at *
    go_wp2_with (first | (refine wpList_store_row (P := Try.prog) rfl 25 (.tmp 11) (.tmp 31) rfl W1.heap.size #[.int .u8 (t : Nat), .slice none 0 0, .slice none 0 0] rfl rfl 25 _ (Blk.new W1 25 [.int .u8 0, .slice none 0 0, .slice none 0 0]) info25 rfl (all_item _ _ _ _ _ _ _) ?_; have D1 := Lib.hid ((Blk.new W1 25 [.int .u8 0, .slice none 0 0, .slice none 0 0]).setRow [.int .u8 (t : Nat), .slice none 0 0, .slice none 0 0]); have D0 := Lib.hid ((D0.out.alloc (.cells #[.int .u8 0, .slice none 0 0, .slice none 0 0] 25)).row #[.int .u8 (t : Nat), .slice none 0 0, .slice none 0 0] (Nat.ne_of_lt D0.out.lt)); have hs2 : w.heap.size + 1 = W1.heap.size := (by rw [← hW1]; simp); have H0 := Lib.hid (below_setRow' (H0.out.alloc H0.out.size (.cells #[.int .u8 0, .slice none 0 0, .slice none 0 0] 25)) H0.out.size #[.int .u8 (t : Nat), .slice none 0 0, .slice none 0 0]); clear c0; have hz2 : ((W1.alloc (.cells #[.int .u8 0, .slice none 0 0, .slice none 0 0] 25)).setRow W1.heap.size #[.int .u8 (t : Nat), .slice none 0 0, .slice none 0 0]).heap.size = W1.heap.size + 1 := (by simp); clear hW1; generalize ((W1.alloc (.cells #[.int .u8 0, .slice none 0 0, .slice none 0 0] 25)).setRow W1.heap.size #[.int .u8 (t : Nat), .slice none 0 0, .slice none 0 0]) = W2 at *; generalize W1.heap.size = gi at *; have g0 : W2.cell? ⟨gi, 0, none⟩ = some (.int .u8 (t : Nat)) := (by simpa using D1.out.cell 0)) | (go_at_call 80; refine (none_any t ht _).mono ?_; rintro e w' ⟨rfl, rfl⟩) | (go_at_call 81; ((with_reducible refine (HLG.out _ (HIN.out.below H0.out)).mono ?_); rintro e w3 ⟨rfl, hb3⟩; have D0 := Lib.hid (D0.out.below' hb3); have D1 := Lib.hid (D1.out.below' hb3); have H0 := Lib.hid (H0.out.trans (hb3.mono H0.out.size)); have hz2 := hb3.size; clear g0; have g0 : w3.cell? ⟨gi, 0, none⟩ = some (.int .u8 (t : Nat)) := (by simpa using D1.out.cell 0))) | (refine wpList_store_row (P := Try.prog) rfl 25 (.tmp 8) (.tmp 48) rfl w.heap.size #[.int .u8 0, .slice none 0 0, .slice none 0 0] rfl rfl 25 _ D0.out info25 rfl (all_item _ _ _ _ _ _ _) ?_))
    (refine bodyPost_ret (results_three Try.results46 _ _ w.heap.size 25 _ (0, 0) _ _ _ rfl rfl rfl (D0.out.setRow [.int .u8 0, .slice none 0 0, .slice none 0 0]) Try.underlying25 rfl info25) rfl ?_; exact RrIs.err hX.out (below_setRow' H0.out (Nat.le_refl w.heap.size) #[.int .u8 0, .slice none 0 0, .slice none 0 0]))
  | ok q =>
    obtain ⟨v, r⟩ := q
    have hrl := lenE_some hE
    have hyl : y.length = en - (p + 1) := by rw [← HYY.out]; exact win_len (by omega)
    obtain ⟨fr, hfr⟩ : ∃ fr, fr + r.length = en := ⟨en - r.length, by omega⟩
    have hfr2 : en - r.length = fr := by omega
    have HLG : Hid (∀ wx, BIn wx (some ⟨B, off, none⟩) n c l → Calls Try.prog 81 #[.slice (some ⟨B, off, none⟩) n c, .int .i64 ((p : Int) + 1), .int .i64 (en : Nat)] wx fun e w' => e = .returned (.tuple #[.int .i64 (v : Nat), .int .i64 (fr : Nat), .int .i64 0]) ∧ Below wx.heap.size wx w') :=
      Lib.hid (fun wx h => by have := refLen_good hE wx _ n c h (p + 1) en he (by omega) (by omega) HYY.out; rwa [HP1.out, hfr2] at this)
    have HE := Lib.hid hE
    clear hE hfr2
    by_cases hs : r.length < v
    · have hX := Lib.hid (rd_short f d t y v r hdp htag HE.out hs)
      have hsi : (en : Int) - (fr : Int) < (v : Int) := by omega
      go_enter Try.func46, Try.ntmps46
      generalize hW1 : w.alloc (.cells #[.int .u8 0, .slice none 0 0, .slice none 0 0] 25) = W1 at *
      go_wp2_with (first | (refine wpList_store_row (P := Try.prog) rfl 25 (.tmp 11) (.tmp 31) rfl W1.heap.size #[.int .u8 (t : Nat), .slice none 0 0, .slice none 0 0] rfl rfl 25 _ (Blk.new W1 25 [.int .u8 0, .slice none 0 0, .slice none 0 0]) info25 rfl (all_item _ _ _ _ _ _ _) ?_; have D1 := Lib.hid ((Blk.new W1 25 [.int .u8 0, .slice none 0 0, .slice none 0 0]).setRow [.int .u8 (t : Nat), .slice none 0 0, .slice none 0 0]); have D0 := Lib.hid ((D0.out.alloc (.cells #[.int .u8 0, .slice none 0 0, .slice none 0 0] 25)).row #[.int .u8 (t : Nat), .slice none 0 0, .slice none 0 0] (Nat.ne_of_lt D0.out.lt)); have hs2 : w.heap.size + 1 = W1.heap.size := (by rw [← hW1]; simp); have H0 := Lib.hid (below_setRow' (H0.out.alloc H0.out.size (.cells #[.int .u8 0, .slice none 0 0, .slice none 0 0] 25)) H0.out.size #[.int .u8 (t : Nat), .slice none 0 0, .slice none 0 0]); clear c0; have hz2 : ((W1.alloc (.cells #[.int .u8 0, .slice none 0 0, .slice none 0 0] 25)).setRow W1.heap.size #[.int .u8 (t : Nat), .slice none 0 0, .slice none 0 0]).heap.size = W1.heap.size + 1 := (by simp); clear hW1; generalize ((W1.alloc (.cells #[.int .u8 0, .slice none 0 0, .slice none 0 0] 25)).setRow W1.heap.size #[.int .u8 (t : Nat), .slice none 0 0, .slice none 0 0]) = W2 at *; generalize W1.heap.size = gi at *; have g0 : W2.cell? ⟨gi, 0, none⟩ = some (.int .u8 (t : Nat)) := (by simpa using D1.out.cell 0)) | (go_at_call 80; refine (none_any t ht _).mono ?_; rintro e w' ⟨rfl, rfl⟩) | (go_at_call 81; ((with_reducible refine (HLG.out _ (HIN.out.below H0.out)).mono ?_); rintro e w3 ⟨rfl, hb3⟩; have D0 := Lib.hid (D0.out.below' hb3); have D1 := Lib.hid (D1.out.below' hb3); have H0 := Lib.hid (H0.out.trans (hb3.mono H0.out.size)); have hz2 := hb3.size; clear g0; have g0 : w3.cell? ⟨gi, 0, none⟩ = some (.int .u8 (t : Nat)) := (by simpa using D1.out.cell 0))) | (refine wpList_store_row (P := Try.prog) rfl 25 (.tmp 8) (.tmp 55) rfl w.heap.size #[.int .u8 0, .slice none 0 0, .slice none 0 0] rfl rfl 25 _ D0.out info25 rfl (all_item _ _ _ _ _ _ _) ?_))
      (refine bodyPost_ret (results_three Try.results46 _ _ w.heap.size 25 _ (0, 0) _ _ _ rfl rfl rfl (D0.out.setRow [.int .u8 0, .slice none 0 0, .slice none 0 0]) Try.underlying25 rfl info25) rfl ?_; exact RrIs.err hX.out (below_setRow' H0.out (Nat.le_refl w.heap.size) #[.int .u8 0, .slice none 0 0, .slice none 0 0]))
    have hsi : ¬ (en : Int) - (fr : Int) < (v : Int) := by omega
    by_cases hkd : t / 32 % 2 = 1
    · have hkb : decide (t / 32 % 2 = 1) = true := by simp [hkd]
      have hw := lenE_win HYY.out HE.out (by omega) hfr hyl hrl
      obtain ⟨E, hEv⟩ : ∃ E, fr + v = E := ⟨_, rfl⟩
      have hEn : E ≤ n := by omega
      have hWE : (l.take E).drop fr = r.take v := by rw [hw, win_take (by omega), ← hEv, List.drop_take, Nat.add_sub_cancel_left]
      have HIH := Lib.hid (fun (g : Nat) (hg : g ≤ f) (wx : World) (P : Nat) (hb : BIn wx (some ⟨B, off, none⟩) n c l) (h1 : (E - P) + 1 ≤ g) (h2 : P ≤ 1048576) => (by
        have := IH'.out g hg (d + 1) wx P E hb hEn h1 h2 (by omega)
        rwa [← hEv, Int.natCast_add, Int.natCast_add, hEv] at this : Calls Try.prog 46 #[.slice (some ⟨B, off, none⟩) n c, .int .i64 (P : Nat), .int .i64 ((fr : Int) + (v : Int)), .int .i64 ((d : Int) + 1)] wx (RrIs (rd g (d + 1) ((l.take E).drop P)) E wx)))
      have HA0 := Lib.hid (show rdA f (d + 1) (r.take v) = comb .nil (rdA f (d + 1) ((l.take E).drop fr)) by rw [hWE, comb_nil])
      have HX1 := Lib.hid (fun x (h : rdA f (d + 1) (r.take v) = .error x) => rd_kidsE f d t y v r x hdp htag HE.out hs hkd h)
      have HX2 := Lib.hid (fun T (h : rdA f (d + 1) (r.take v) = .ok T) => rd_kidsK f d t y v r T hdp htag HE.out hs hkd h)
      have HEV := Lib.hid hEv
      have hff : v + 2 ≤ f := by omega
      have hE65 : E ≤ 65536 := by omega
      obtain ⟨i25, hi25, hz25, hs25, hy25⟩ := info_parts info25z
      clear hWE hw hEv
      go_enter Try.func46, Try.ntmps46
      generalize hW1 : w.alloc (.cells #[.int .u8 0, .slice none 0 0, .slice none 0 0] 25) = W1 at *
      go_wp2_with (first | (refine wpList_store_row (P := Try.prog) rfl 25 (.tmp 11) (.tmp 31) rfl W1.heap.size #[.int .u8 (t : Nat), .slice none 0 0, .slice none 0 0] rfl rfl 25 _ (Blk.new W1 25 [.int .u8 0, .slice none 0 0, .slice none 0 0]) info25 rfl (all_item _ _ _ _ _ _ _) ?_; have D1 := Lib.hid ((Blk.new W1 25 [.int .u8 0, .slice none 0 0, .slice none 0 0]).setRow [.int .u8 (t : Nat), .slice none 0 0, .slice none 0 0]); have D0 := Lib.hid ((D0.out.alloc (.cells #[.int .u8 0, .slice none 0 0, .slice none 0 0] 25)).row #[.int .u8 (t : Nat), .slice none 0 0, .slice none 0 0] (Nat.ne_of_lt D0.out.lt)); have hs2 : w.heap.size + 1 = W1.heap.size := (by rw [← hW1]; simp); have H0 := Lib.hid (below_setRow' (H0.out.alloc H0.out.size (.cells #[.int .u8 0, .slice none 0 0, .slice none 0 0] 25)) H0.out.size #[.int .u8 (t : Nat), .slice none 0 0, .slice none 0 0]); clear c0; have hz2 : ((W1.alloc (.cells #[.int .u8 0, .slice none 0 0, .slice none 0 0] 25)).setRow W1.heap.size #[.int .u8 (t : Nat), .slice none 0 0, .slice none 0 0]).heap.size = W1.heap.size + 1 := (by simp); clear hW1; generalize ((W1.alloc (.cells #[.int .u8 0, .slice none 0 0, .slice none 0 0] 25)).setRow W1.heap.size #[.int .u8 (t : Nat), .slice none 0 0, .slice none 0 0]) = W2 at *; generalize W1.heap.size = gi at *; have g0 : W2.cell? ⟨gi, 0, none⟩ = some (.int .u8 (t : Nat)) := (by simpa using D1.out.cell 0)) | (go_at_call 80; refine (none_any t ht _).mono ?_; rintro e w' ⟨rfl, rfl⟩) | (go_at_call 81; ((with_reducible refine (HLG.out _ (HIN.out.below H0.out)).mono ?_); rintro e w3 ⟨rfl, hb3⟩; have D0 := Lib.hid (D0.out.below' hb3); have D1 := Lib.hid (D1.out.below' hb3); have H0 := Lib.hid (H0.out.trans (hb3.mono H0.out.size)); have hz2 := hb3.size; clear g0; have g0 : w3.cell? ⟨gi, 0, none⟩ = some (.int .u8 (t : Nat)) := (by simpa using D1.out.cell 0))) | (go_at_call 82; refine (Built_any t ht _).mono ?_; rintro e w' ⟨rfl, rfl⟩))
      have HBW := Lib.hid H0.out
      have hgi3 := D1.out.lt
      have hwg := D0.out.lt
      have D10 := Lib.hid D1.out
      have D00 := Lib.hid D0.out
      obtain ⟨B1, hB1⟩ : ∃ B1, B1 = w3.heap.size := ⟨_, rfl⟩
      have hgB : gi < B1 := by omega
      have hwB : w.heap.size < B1 := by omega
      go_loopw [1] (fun at' wr => ∃ (g P : Nat) (A : Tr) (xs : List Value) (L : List Nat) (v2 : Value), at' = .int .i64 (P : Nat) ∧ fr ≤ P ∧ P ≤ E ∧ rdA f (d + 1) (r.take v) = comb A (rdA g (d + 1) ((l.take E).drop P)) ∧ (E - P) + 2 ≤ g ∧ g ≤ f ∧ A.len + (E - P) ≤ v ∧
        Blk wr gi 25 [.int .u8 (t : Nat), .slice none 0 0, v2] ∧ Blk wr w.heap.size 25 [.int .u8 0, .slice none 0 0, .slice none 0 0] ∧ wr.ownsRow B1 25 3 v2 A.len xs ∧ OwnV wr B1 A xs L ∧ (ob v2 ++ L).Nodup ∧ B1 ≤ wr.heap.size ∧ Below w.heap.size w wr) (fun at' _ => E - (intOf at').toNat)
      case atStart => exact ⟨f, fr, .nil, [], [], .slice none 0 0, rfl, Nat.le_refl _, by have := HEV.out; omega, HA0.out, by have := HEV.out; omega, Nat.le_refl _, by have := HEV.out; simp only [Tr.len]; omega, D10.out, D00.out, World.ownsRow_nil _ _ _ _, ⟨rfl, rfl⟩, List.nodup_nil, by omega, HBW.out⟩
      case round =>
        obtain ⟨g, P, A, xs, L, v2, rfl, hP1, hP2, hR, hg, hgf, hAl, hD1, hD0, hown, hV, hN, hsz, hbel⟩ := hrel
        have HR := Lib.hid hR
        have D1 := Lib.hid hD1
        have D0 := Lib.hid hD0
        have HOW := Lib.hid hown
        have HV := Lib.hid hV
        have HN := Lib.hid hN
        have HBL := Lib.hid hbel
        have HAL := Lib.hid hAl
        obtain ⟨av, cv, rfl⟩ := own_slice hown
        clear hR hD1 hD0 hown hV hN hbel hAl
        by_cases hpE : P < E
        · have hpi : (P : Int) < (fr : Int) + (v : Int) := by have := HEV.out; omega
          obtain ⟨g, rfl⟩ : ∃ g', g = g' + 1 := ⟨g - 1, by omega⟩
          have hxy := win_cons (l := l) (p := P) (en := E) hpE (by omega)
          have hC := HIH.out g (by omega) wr P (HIN.out.below HBL.out) (by omega) (by omega)
          cases hE2 : rd g (d + 1) ((l.take E).drop P) with
          | error z =>
            rw [hE2] at hC
            have HC := Lib.hid (rr_bad rfl hC)
            have hz := ((rd_errs g (d + 1) ((l.take E).drop P)).1 z (by rw [win_len (by omega)]; omega) hE2).1
            have hX := Lib.hid (HX1.out z (by rw [HR.out, hxy]; exact rdA_err A (by rw [← hxy]; exact hE2)))
            have hzi : ¬ (z : Int) = 0 := by omega
            have hzb : ((z : Int) != 0) = true := by simp; omega
            clear hxy hC hE2 hz
            go_wp2_with (first | (go_at_call 46; refine HC.out.mono ?_; rintro e w2 ⟨rfl, hb2⟩; have D0 := Lib.hid (D0.out.below' hb2); have HBL := Lib.hid (HBL.out.trans (Below.mono hb2 HBL.out.size))) | (refine wpList_store_row (P := Try.prog) rfl 25 (.tmp 17) (.tmp 89) rfl w2.heap.size #[.int .u8 0, .slice none 0 0, .slice none 0 0] rfl rfl 25 _ (Blk.new w2 25 [.int .u8 0, .slice none 0 0, .slice none 0 0]) info25 rfl (all_item _ _ _ _ _ _ _) ?_; have hB22 : Below w2.heap.size w2 ((w2.alloc (.cells #[.int .u8 0, .slice none 0 0, .slice none 0 0] 25)).setRow w2.heap.size #[.int .u8 0, .slice none 0 0, .slice none 0 0]) := below_setRow' ((Below.refl _ w2).alloc (Nat.le_refl _) _) (Nat.le_refl _) _; have D0 := Lib.hid (D0.out.below' hB22); have HBL := Lib.hid (HBL.out.trans (Below.mono hB22 HBL.out.size))) | (refine wpList_store_row (P := Try.prog) rfl 25 (.tmp 8) (.tmp 94) rfl w.heap.size #[.int .u8 0, .slice none 0 0, .slice none 0 0] rfl rfl 25 _ D0.out info25 rfl (all_item _ _ _ _ _ _ _) ?_))
            all_goals
              have D3 := D0.out.setRow [.int .u8 0, .slice none 0 0, .slice none 0 0]
              refine bodyPost_ret (results_three Try.results46 _ _ w.heap.size 25 _ (0, 0) _ _ _ rfl rfl rfl D3 Try.underlying25 rfl info25) rfl ?_
              exact RrIs.err hX.out (below_setRow' HBL.out (Nat.le_refl w.heap.size) #[.int .u8 0, .slice none 0 0, .slice none 0 0])
          | ok q =>
            obtain ⟨t3, b3, k3, r3⟩ := q
            rw [hE2] at hC
            have hr3 := rd_len _ _ _ hE2
            rw [win_len (by omega)] at hr3
            obtain ⟨P2, hP2e⟩ : ∃ P2, E - r3.length = P2 := ⟨_, rfl⟩
            have HC := Lib.hid (rr_good rfl hP2e hC)
            have hwin := rd_win hE2 (by omega) (by omega)
            rw [hP2e] at hwin
            have hX := Lib.hid (show rdA f (d + 1) (r.take v) = comb (A.app (.node t3 b3 k3 .nil)) (rdA g (d + 1) ((l.take E).drop P2)) by
              rw [HR.out, hxy, rdA_ok A (by rw [← hxy]; exact hE2), ← hwin])
            have hPP : P < P2 ∧ P2 ≤ E := by omega
            have hAm : A.len ≤ 65536 := by have := HAL.out; omega
            have hszw := hsz
            clear hxy hC hE2 hwin hr3 hP2e
            go_wp2_with (first | (go_at_call 46; refine HC.out.mono ?_; rintro e w2 ⟨v1, v2, L3, rfl, hV3, hN3, hb2⟩; obtain ⟨a1, c1, a2, c2, _, rfl, rfl, hit⟩ := hV3.item; have HV3 := Lib.hid hV3; have HN3 := Lib.hid hN3; have D0 := Lib.hid (D0.out.below' hb2); have D1 := Lib.hid (D1.out.below' hb2); have HB2 := Lib.hid hb2; have hs2 := hb2.size; clear hV3 hN3 hit) | (refine wpList_store_row (P := Try.prog) rfl 25 (.tmp 17) (.tmp 89) rfl w2.heap.size #[.int .u8 (t3 : Nat), .slice a1 b3.length c1, .slice a2 k3.len c2] rfl rfl 25 _ (Blk.new w2 25 [.int .u8 0, .slice none 0 0, .slice none 0 0]) info25 rfl (all_item _ _ _ _ _ _ _) ?_; have hB22 : Below w2.heap.size w2 ((w2.alloc (.cells #[.int .u8 0, .slice none 0 0, .slice none 0 0] 25)).setRow w2.heap.size #[.int .u8 (t3 : Nat), .slice a1 b3.length c1, .slice a2 k3.len c2]) := below_setRow' ((Below.refl _ w2).alloc (Nat.le_refl _) _) (Nat.le_refl _) _; have DX := Lib.hid ((Blk.new w2 25 [.int .u8 0, .slice none 0 0, .slice none 0 0]).setRow [.int .u8 (t3 : Nat), .slice a1 b3.length c1, .slice a2 k3.len c2]); have D0 := Lib.hid (D0.out.below' hB22); have D1 := Lib.hid (D1.out.below' hB22); have hs22 : ((w2.alloc (.cells #[.int .u8 0, .slice none 0 0, .slice none 0 0] 25)).setRow w2.heap.size #[.int .u8 (t3 : Nat), .slice a1 b3.length c1, .slice a2 k3.len c2]).heap.size = w2.heap.size + 1 := (by simp); have HB22 := Lib.hid hB22; have HS22 := Lib.hid hs22; clear hB22 hs22; generalize (w2.alloc (.cells #[.int .u8 0, .slice none 0 0, .slice none 0 0] 25)).setRow w2.heap.size #[.int .u8 (t3 : Nat), .slice a1 b3.length c1, .slice a2 k3.len c2] = w22 at *; have q2 := D1.out.cell 2; simp at q2) | (refine wpList_load_row (P := Try.prog) rfl 25 (.tmp 17) rfl w2.heap.size rfl 25 _ _ _ DX.out Try.underlying25 rfl info25 ?_) | (at_builtin; refine wpList_append_lies _ rfl (.tmp 97) (.tmp 99) 23 rfl B1 25 i25 _ 3 56 Try.underlying23 hi25 hz25 hs25 hy25 rfl (by decide) (.slice av A.len cv) A.len xs rfl (own_below HOW.out ((HB2.out.trans (Below.mono HB22.out hs2)).alloc (by have := HB22.out.size; omega) _)) ⟨w22.heap.size, 0, none⟩ 1 1 [.int .u8 (t3 : Nat), .slice a1 b3.length c1, .slice a2 k3.len c2] rfl rfl (one_three w22 _ _ _ _) (HV3.out.cell1) (by decide) (by simp only [maxLen]; omega) (by omega) (by have := HB22.out.size; simp; omega) _ rfl ?_; intro g5 cap5 w5 hown5 hg5 hat5 hlt5; have hD1 := (D1.out.alloc (.cells #[.int .u8 (t3 : Nat), .slice a1 b3.length c1, .slice a2 k3.len c2] 25)); have hD1 := hD1.of (hg5.block gi hD1.lt (fun e => by have := (own_ob_lt HOW.out gi (by rw [ob, ← e]; simp)).1; omega)); have hD0 := (D0.out.alloc (.cells #[.int .u8 (t3 : Nat), .slice a1 b3.length c1, .slice a2 k3.len c2] 25)); have hD0 := hD0.of (hg5.block w.heap.size hD0.lt (fun e => by have := (own_ob_lt HOW.out w.heap.size (by rw [ob, ← e]; simp)).1; omega)); have D1 : Hid (Blk (w5.setCell ⟨gi, 2, none⟩ (.slice (some ⟨g5, 0, none⟩) (A.len + 1) cap5)) gi 25 [.int .u8 (t : Nat), .slice none 0 0, .slice (some ⟨g5, 0, none⟩) (A.len + 1) cap5]) := Lib.hid (hD1.set 2 _); have D0 := Lib.hid (hD0.other ⟨gi, 2, none⟩ (.slice (some ⟨g5, 0, none⟩) (A.len + 1) cap5) (by simp; omega)); have q2 := hD1.cell 2; have f2 := hD1.free 2; simp at q2; clear hD0 hD1))
            have hB24 := HB22.out.alloc HB22.out.size (.cells #[.int .u8 (t3 : Nat), .slice a1 b3.length c1, .slice a2 k3.len c2] 25)
            have hP := own_push2 (n := A.len + 1) (cap := cap5) HOW.out HV.out HN.out (fun g hg => HB2.out.block g hg) (Nat.le_refl wr.heap.size) hszw HV3.out HN3.out (fun g hg => hB24.block g (by omega)) hs2 hB24.size rfl hg5 hat5
            have hPl := hP.1.lt
            have hk6 : ∀ g, B1 ≤ g → (w5.setCell ⟨gi, 2, none⟩ (.slice (some ⟨g5, 0, none⟩) (A.len + 1) cap5)).heap[g]? = w5.heap[g]? := fun g hg => heap_setCell_other w5 ⟨gi, 2, none⟩ g _ (by simp; omega)
            have hP1 := hP.1.keep (fun g hg => hk6 g (hPl g hg).1)
            have hO6 := own_keep hown5 (fun g hg => hk6 g (own_ob_lt hown5 g hg).1)
            have hb4 : Below w.heap.size w (w22.alloc (.cells #[.int .u8 (t3 : Nat), .slice a1 b3.length c1, .slice a2 k3.len c2] 25)) := (HBL.out.trans (Below.mono HB2.out HBL.out.size)).trans (Below.mono hB24 (by have := HBL.out.size; omega))
            have hb5 := hb4.grown hg5 hb4.size (fun x hx => by have := (own_ob_lt HOW.out x (by rw [ob, hx]; simp)).1; omega)
            have hb6 := hb5.setCell (p := ⟨gi, 2, none⟩) (by simp; omega) (.slice (some ⟨g5, 0, none⟩) (A.len + 1) cap5)
            have hsz5 : B1 ≤ w5.heap.size := by have h1 := hg5.size; have h2 := hB24.size; omega
            have hAL := HAL.out
            go_roundw
            case rel =>
              refine ⟨g, P2, A.app (.node t3 b3 k3 .nil), xs ++ [.int .u8 (t3 : Nat), .slice a1 b3.length c1, .slice a2 k3.len c2], L ++ L3, .slice (some ⟨g5, 0, none⟩) (A.len + 1) cap5, rfl, by omega, hPP.2, hX.out, by omega, by omega, ?_, D1.out, D0.out, ?_, hP1, hP.2, ?_, hb6⟩
              · rw [Tr.len_app]; simp only [Tr.len]; omega
              · rw [Tr.len_app]; exact hO6
              · simpa using hsz5
            case measure => simp [intOf]; omega
        · obtain rfl : P = E := by omega
          have hpi : ¬ (P : Int) < (fr : Int) + (v : Int) := by have := HEV.out; omega
          have hX := Lib.hid (HX2.out A (by rw [HR.out, List.drop_eq_nil_of_le (by simp; omega), rdA_nil]; simp [comb, Tr.app_nil]))
          have hA2 : A.len ≤ 1048576 := by have := HAL.out; omega
          go_wp2_with (first | (refine wpList_load_row (P := Try.prog) rfl 25 (.tmp 11) rfl gi rfl 25 _ _ _ D1.out Try.underlying25 rfl info25 ?_) | (refine wpList_store_row (P := Try.prog) rfl 25 (.tmp 8) (.tmp 103) rfl w.heap.size #[.int .u8 (t : Nat), .slice none 0 0, .slice av A.len cv] rfl rfl 25 _ D0.out info25 rfl (all_item _ _ _ _ _ _ _) ?_))
          have D3 := D0.out.setRow [.int .u8 (t : Nat), .slice none 0 0, .slice av A.len cv]
          refine bodyPost_ret (results_three Try.results46 _ _ w.heap.size 25 _ (0, 0) _ _ _ rfl rfl rfl D3 Try.underlying25 rfl info25) rfl ?_
          have hne : ∀ g, B1 ≤ g → (wr.setRow w.heap.size #[.int .u8 (t : Nat), .slice none 0 0, .slice av A.len cv]).heap[g]? = wr.heap[g]? := fun g hg => setRow_other wr w.heap.size g _ (by omega)
          have hlt := HV.out.lt
          have o2 := ownsMono (own_keep HOW.out fun g hg => hne g (own_ob_lt HOW.out g hg).1) (show w.heap.size ≤ B1 by omega)
          have o3 := (HV.out.keep fun g hg => hne g (hlt g hg).1).mono (show w.heap.size ≤ B1 by omega)
          have hI := OwnV.mk (t := t) (b := []) (k := A) ht (by simp) (by simp) hA2 (World.ownsRow_nil _ _ _ _) o2 o3
          exact RrIs.good hX.out (below_setRow' HBL.out (Nat.le_refl w.heap.size) #[.int .u8 (t : Nat), .slice none 0 0, .slice av A.len cv]) (by rw [List.length_drop]; have := HEV.out; omega) hI HN.out
    · have hkb : decide (t / 32 % 2 = 1) = false := by simp [hkd]
      have hw := lenE_win HYY.out HE.out (by omega) hfr hyl hrl
      have HBS := Lib.hid (fun (A : Option Addr) (hA : A = some ⟨B, off, none⟩ ∧ c = fr ∨ A = some ⟨B, off + fr, none⟩) (mm : Nat) (hmm : v = mm) (cc : Nat) (hcc : cc = c - fr) (wx : World) (hb : Below w.heap.size w wx) => (by
        subst hcc
        rw [← hmm]
        have h1 := bin_dropZ (HIN.out.below hb) (f := fr) (by omega) A (hA.imp (fun h => ⟨h.1, by have := HIN.out.2.1; omega⟩) id)
        rw [hw, win_take (by omega)]
        have h2 : v ≤ n - fr := by omega
        rcases hA with ⟨rfl, _⟩ | rfl
        · exact bin_headZ h1 h2
        · exact bin_headZ h1 h2 : BIn wx A mm cc (r.take v)))
      have hcv : (fr : Int) + (v : Int) ≤ (c : Int) := by have := HIN.out.2.1; omega
      have hX := Lib.hid (rd_body f d t y v r hdp htag HE.out hs hkd)
      go_enter Try.func46, Try.ntmps46
      generalize hW1 : w.alloc (.cells #[.int .u8 0, .slice none 0 0, .slice none 0 0] 25) = W1 at *
      go_wp2_with (first | (refine wpList_store_row (P := Try.prog) rfl 25 (.tmp 11) (.tmp 31) rfl W1.heap.size #[.int .u8 (t : Nat), .slice none 0 0, .slice none 0 0] rfl rfl 25 _ (Blk.new W1 25 [.int .u8 0, .slice none 0 0, .slice none 0 0]) info25 rfl (all_item _ _ _ _ _ _ _) ?_; have D1 := Lib.hid ((Blk.new W1 25 [.int .u8 0, .slice none 0 0, .slice none 0 0]).setRow [.int .u8 (t : Nat), .slice none 0 0, .slice none 0 0]); have D0 := Lib.hid ((D0.out.alloc (.cells #[.int .u8 0, .slice none 0 0, .slice none 0 0] 25)).row #[.int .u8 (t : Nat), .slice none 0 0, .slice none 0 0] (Nat.ne_of_lt D0.out.lt)); have hs2 : w.heap.size + 1 = W1.heap.size := (by rw [← hW1]; simp); have H0 := Lib.hid (below_setRow' (H0.out.alloc H0.out.size (.cells #[.int .u8 0, .slice none 0 0, .slice none 0 0] 25)) H0.out.size #[.int .u8 (t : Nat), .slice none 0 0, .slice none 0 0]); clear c0; have hz2 : ((W1.alloc (.cells #[.int .u8 0, .slice none 0 0, .slice none 0 0] 25)).setRow W1.heap.size #[.int .u8 (t : Nat), .slice none 0 0, .slice none 0 0]).heap.size = W1.heap.size + 1 := (by simp); clear hW1; generalize ((W1.alloc (.cells #[.int .u8 0, .slice none 0 0, .slice none 0 0] 25)).setRow W1.heap.size #[.int .u8 (t : Nat), .slice none 0 0, .slice none 0 0]) = W2 at *; generalize W1.heap.size = gi at *; have g0 : W2.cell? ⟨gi, 0, none⟩ = some (.int .u8 (t : Nat)) := (by simpa using D1.out.cell 0)) | (go_at_call 80; refine (none_any t ht _).mono ?_; rintro e w' ⟨rfl, rfl⟩) | (go_at_call 81; ((with_reducible refine (HLG.out _ (HIN.out.below H0.out)).mono ?_); rintro e w3 ⟨rfl, hb3⟩; have D0 := Lib.hid (D0.out.below' hb3); have D1 := Lib.hid (D1.out.below' hb3); have H0 := Lib.hid (H0.out.trans (hb3.mono H0.out.size)); have hz2 := hb3.size; clear g0; have g0 : w3.cell? ⟨gi, 0, none⟩ = some (.int .u8 (t : Nat)) := (by simpa using D1.out.cell 0))) | (go_at_call 82; refine (Built_any t ht _).mono ?_; rintro e w' ⟨rfl, rfl⟩) | (at_builtin; refine wpList_append_bytes _ rfl (.tmp 61) (.tmp 67) rfl w3.heap.size _ 0 [] rfl (zero_own w3) _ _ _ (r.take v) rfl (HBS.out _ (ifAt c fr B off) _ (by omega) _ (by omega) _ (H0.out.alloc H0.out.size _)) (by omega) (by simp) ?_; intro v4 w4 ho4 hg4; rw [Nat.zero_add, List.nil_append, Nat.add_sub_cancel_left] at ho4; obtain ⟨a4, c4, rfl⟩ := own_slice ho4; have hg3 := D1.out.lt; have H4 := Lib.hid ((H0.out.alloc H0.out.size (.cells #[] 5)).grown hg4 (H0.out.alloc H0.out.size (.cells #[] 5)).size (fun x hx => Nat.le_trans H0.out.size ((zero_own w3).lt x hx).1)); have D0 := Lib.hid ((D0.out.alloc (.cells #[] 5)).of (hg4.block _ (D0.out.alloc (.cells #[] 5)).lt (fun e => by have h1 := ((zero_own w3).lt _ e.symm).1; have := D0.out.lt; omega))); have D1 := Lib.hid ((D1.out.alloc (.cells #[] 5)).of (hg4.block _ (D1.out.alloc (.cells #[] 5)).lt (fun e => by have h1 := ((zero_own w3).lt _ e.symm).1; have := D1.out.lt; omega))); clear g0; have q1 := D1.out.cell 1; have f1 := D1.out.free 1; simp at q1; have D0 := Lib.hid (D0.out.other ⟨gi, 1, none⟩ (.slice a4 v c4) (by simp; omega)); have D1 : Hid (Blk (w4.setCell ⟨gi, 1, none⟩ (.slice a4 v c4)) gi 25 [.int .u8 (t : Nat), .slice a4 v c4, .slice none 0 0]) := Lib.hid (D1.out.set 1 (.slice a4 v c4)); have HO5 := Lib.hid (own_keep (w' := w4.setCell ⟨gi, 1, none⟩ (.slice a4 v c4)) ho4 (fun g hg => heap_setCell_other w4 ⟨gi, 1, none⟩ g (.slice a4 v c4) (by have := (own_ob_lt ho4 g hg).1; simp; omega))); have H5 := Lib.hid (H4.out.setCell (p := ⟨gi, 1, none⟩) (by simp; omega) (.slice a4 v c4)); clear ho4) | (refine wpList_load_row (P := Try.prog) rfl 25 (.tmp 11) rfl gi rfl 25 _ _ _ D1.out Try.underlying25 rfl info25 ?_) | (refine wpList_store_row (P := Try.prog) rfl 25 (.tmp 8) (.tmp 70) rfl w.heap.size #[.int .u8 (t : Nat), .slice a4 v c4, .slice none 0 0] rfl rfl 25 _ D0.out info25 rfl (all_item _ _ _ _ _ _ _) ?_))
      all_goals
        have D3 := D0.out.setRow [.int .u8 (t : Nat), .slice a4 v c4, .slice none 0 0]
        refine bodyPost_ret (results_three Try.results46 _ _ w.heap.size 25 _ (0, 0) _ _ _ rfl rfl rfl D3 Try.underlying25 rfl info25) rfl ?_
        have h3s := (H0.out.size : w.heap.size ≤ w3.heap.size)
        have hO6 := ownsMono (own_keep HO5.out fun g hg => setRow_other _ w.heap.size g #[.int .u8 (t : Nat), .slice a4 v c4, .slice none 0 0] (by have := (own_ob_lt HO5.out g hg).1; omega)) h3s
        have hlt : (r.take v).length = v := by simp; omega
        have hxs : ∀ x ∈ r.take v, x < 256 := fun x hx => by
          rw [hw] at hx
          exact HIN.out.1.2.2.1 x (List.mem_of_mem_take (List.mem_of_mem_drop (List.mem_of_mem_take hx)))
        have hI := OwnV.mk (t := t) (b := r.take v) (k := .nil) (L1 := []) ht hxs (by omega) (Nat.zero_le _) (by rw [hlt]; exact hO6) (World.ownsRow_nil _ _ _ _) ⟨rfl, rfl⟩
        refine RrIs.good hX.out (below_setRow' H5.out (Nat.le_refl w.heap.size) #[.int .u8 (t : Nat), .slice a4 v c4, .slice none 0 0]) (by rw [List.length_drop]; omega) hI ?_
        cases a4 <;> simp [ob, Value.ownBlock]
end Go.Proofs.Ytbabpmncdphnjaa
