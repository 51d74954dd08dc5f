/- The project's read, over a contract of readAll. No condition. -/
import Derived.Test.YtbabpmncdphnjaaLg
import Derived.Test.YtbabpmncdphnjaaCl
import Derived.Test.YtbabpmncdphnjaaOw
namespace Go.Proofs.Ytbabpmncdphnjaa
open Go.RowKit
set_option linter.unusedVariables false
set_option maxRecDepth 100000

/-- what read answers -/
def RdIs (ain : Option Addr) (R : Except Nat (Nat × List Nat × Tr × List Nat)) (w : World) (e : Ending) (w' : World) : Prop :=
  Below w.heap.size w w' ∧ match R with
  | .error c => e = boom c
  | .ok (t, b, k, r) => ∃ v1 v2 a c L, e = .returned (.tuple #[.agg #[.int .u8 (t : Nat), v1, v2], .slice a r.length c]) ∧ OwnV w' w.heap.size (.node t b k .nil) [.int .u8 (t : Nat), v1, v2] L ∧ L.Nodup ∧ BIn w' a r.length c r ∧ ∀ B f, ain = some ⟨B, f, none⟩ → ∃ o, a = some ⟨B, o, none⟩
/-- what readAll answers -/
def RaIs (R : Except Nat Tr) (w : World) (e : Ending) (w' : World) : Prop :=
  Below w.heap.size w w' ∧ match R with
  | .error c => e = boom c
  | .ok T => ∃ v ys L, e = .returned v ∧ T.len ≤ 1048576 ∧ w'.ownsRow w.heap.size 25 3 v T.len ys ∧ OwnV w' w.heap.size T ys L ∧ (ob v ++ L).Nodup

theorem RdIs.err {ain : Option Addr} {R : Except Nat (Nat × List Nat × Tr × List Nat)} {w : World} {c : Nat} (h : R = .error c) {w' : World} (hb : Below w.heap.size w w') : RdIs ain R w (boom c) w' := by subst h; exact ⟨hb, rfl⟩
theorem length_bad {l : List Nat} {x : Nat} (h : lenE l = .error x) (w : World) (a : Option Addr) (n c : Nat) (hin : BIn w a n c l) : Calls Try.prog 84 #[.slice a n c] w fun e w' => e = boom x ∧ Below w.heap.size w w' := by
  refine (length_any w a n c l hin).mono fun e w' ⟨h1, h2⟩ => ?_
  rw [h] at h2; exact ⟨h2, h1⟩
theorem length_good {l : List Nat} {v : Nat} {r : List Nat} (h : lenE l = .ok (v, r)) (w : World) (a : Option Addr) (n c : Nat) (hin : BIn w a n c l) : Calls Try.prog 84 #[.slice a n c] w fun e w' => ∃ B f o c, a = some ⟨B, f, none⟩ ∧ e = .returned (.tuple #[.int .i64 (v : Nat), .slice (some ⟨B, o, none⟩) r.length c]) ∧ BIn w' (some ⟨B, o, none⟩) r.length c r ∧ Below w.heap.size w w' := by
  refine (length_any w a n c l hin).mono fun e w' ⟨h1, h2⟩ => ?_
  rw [h] at h2; obtain ⟨B, f, o, c, h0, h3, h4⟩ := h2; exact ⟨B, f, o, c, h0, h3, h4, h1⟩
theorem rd_deep (f d : Nat) (l : List Nat) (h : 16 < d) : rd (f + 1) d l = .error 125 := by simp [rd, h]
theorem rd_end (f d : Nat) (h : ¬ 16 < d) : rd (f + 1) d [] = .error 122 := by simp [rd, h]
theorem rd_tag (f d t : Nat) (b : List Nat) (h : ¬ 16 < d) (h1 : t % 32 = 31) : rd (f + 1) d (t :: b) = .error 123 := by simp [rd, h, h1]
theorem rd_lenbad (f d t : Nat) (b : List Nat) (x : Nat) (h : ¬ 16 < d) (h1 : ¬ t % 32 = 31) (h2 : lenE b = .error x) : rd (f + 1) d (t :: b) = .error x := by simp [rd, h, h1, h2]
theorem rd_short (f d t : Nat) (b : List Nat) (n : Nat) (c : List Nat) (h : ¬ 16 < d) (h1 : ¬ t % 32 = 31) (h2 : lenE b = .ok (n, c)) (h3 : c.length < n) : rd (f + 1) d (t :: b) = .error 122 := by simp [rd, h, h1, h2, h3]
theorem rd_kidsE (f d t : Nat) (b : List Nat) (n : Nat) (c : List Nat) (x : Nat) (h : ¬ 16 < d) (h1 : ¬ t % 32 = 31) (h2 : lenE b = .ok (n, c)) (h3 : ¬ c.length < n) (h4 : t / 32 % 2 = 1) (h5 : rdA f (d + 1) (c.take n) = .error x) :
    rd (f + 1) d (t :: b) = .error x := by simp only [rd, if_neg h, if_neg h1, h2, if_neg h3, if_pos h4, h5]
theorem rd_kidsK (f d t : Nat) (b : List Nat) (n : Nat) (c : List Nat) (k : Tr) (h : ¬ 16 < d) (h1 : ¬ t % 32 = 31) (h2 : lenE b = .ok (n, c)) (h3 : ¬ c.length < n) (h4 : t / 32 % 2 = 1) (h5 : rdA f (d + 1) (c.take n) = .ok k) :
    rd (f + 1) d (t :: b) = .ok (t, [], k, c.drop n) := by simp only [rd, if_neg h, if_neg h1, h2, if_neg h3, if_pos h4, h5]
theorem rd_body (f d t : Nat) (b : List Nat) (n : Nat) (c : List Nat) (h : ¬ 16 < d) (h1 : ¬ t % 32 = 31) (h2 : lenE b = .ok (n, c)) (h3 : ¬ c.length < n) (h4 : ¬ t / 32 % 2 = 1) :
    rd (f + 1) d (t :: b) = .ok (t, c.take n, .nil, c.drop n) := by simp only [rd, if_neg h, if_neg h1, h2, if_neg h3, if_neg h4]

theorem RdIs.good {B f : Nat} {R : Except Nat (Nat × List Nat × Tr × List Nat)} {w : World} {t : Nat} {b : List Nat} {k : Tr} {r : List Nat} (h : R = .ok (t, b, k, r)) {w' : World} (hb : Below w.heap.size w w') {v1 v2 : Value} {a : Option Addr} {n c : Nat} {L : List Nat} (hn : r.length = n)
    (h1 : OwnV w' w.heap.size (.node t b k .nil) [.int .u8 (t : Nat), v1, v2] L) (h2 : L.Nodup) (h3 : BIn w' a n c r) (h4 : ∃ o, a = some ⟨B, o, none⟩) : RdIs (some ⟨B, f, none⟩) R w (.returned (.tuple #[.agg #[.int .u8 (t : Nat), v1, v2], .slice a n c])) w' := by
  subst h hn; exact ⟨hb, v1, v2, a, c, L, rfl, h1, h2, h3, fun B' f' e => by injection e with e; injection e with e _; subst e; exact h4⟩
theorem ra_bad {R : Except Nat Tr} {x : Nat} (h : R = .error x) {args : Array Value} {w : World} (hc : Calls Try.prog 86 args w (RaIs R w)) : Calls Try.prog 86 args w fun e w' => e = boom x ∧ Below w.heap.size w w' := by
  subst h; exact hc.mono fun e w' h => ⟨h.2, h.1⟩
theorem ra_good {R : Except Nat Tr} {T : Tr} (h : R = .ok T) {args : Array Value} {w : World} (hc : Calls Try.prog 86 args w (RaIs R w)) : Calls Try.prog 86 args w fun e w' => ∃ v ys L, e = .returned v ∧ T.len ≤ 1048576 ∧ w'.ownsRow w.heap.size 25 3 v T.len ys ∧ OwnV w' w.heap.size T ys L ∧ (ob v ++ L).Nodup ∧ Below w.heap.size w w' := by
  subst h; exact hc.mono fun e w' h => by
    obtain ⟨v, ys, L, h1, h2, h3, h4, h5⟩ := h.2
    exact ⟨v, ys, L, h1, h2, h3, h4, h5, h.1⟩
theorem two_res {v : Value} {w : World} {fn : Func} {tmps : Array Value} {R : Ending → World → Prop} (h : (results fn tmps).run Try.prog w = .ok v w) (hR : R (.returned v) w) : ∃ v, (results fn tmps).run Try.prog w = .ok v w ∧ R (.returned v) w := ⟨v, h, hR⟩

set_option maxRecDepth 100000 in
set_option maxHeartbeats 4000000 in
theorem read_step (f : Nat) (IH : ∀ (d : Nat) (l : List Nat) (w : World) (a : Option Addr) (n c : Nat), l.length + 2 ≤ f → l.length ≤ 65536 → d ≤ 65536 → BIn w a n c l → Calls Try.prog 86 #[.slice a n c, .int .i64 (d : Nat)] w (RaIs (rdA f d l) w))
    (d : Nat) (l : List Nat) (w : World) (a : Option Addr) (n c : Nat) (hf : l.length ≤ f) (hl : l.length ≤ 65536) (hd : d ≤ 65536) (hin : BIn w a n c l) :
    Calls Try.prog 50 #[.slice a n c, .int .i64 (d : Nat)] w (RdIs a (rd (f + 1) d l) w) := by
  have hn : l.length = n := hin.1.1
  have hnc := hin.2.1
  have h0 := fun o => (Below.refl _ w).alloc (Nat.le_refl _) o
  by_cases hdp : 16 < d
  · have hdi : ¬ (d : Int) ≤ 16 := by omega
    clear hin
    go_enter Try.func50, Try.ntmps50
    go_wp2_with (go_at_call 49; refine (must_f (by first | (simp; omega) | (simp; done) | rfl) _ _).mono ?_; rintro e w' ⟨rfl, rfl⟩)
    exact ⟨rfl, RdIs.err (rd_deep f d l hdp) (h0 _)⟩
  have hdi : (d : Int) ≤ 16 := by omega
  cases l with
  | nil =>
    obtain rfl : n = 0 := by simpa using hn.symm
    clear hin hn
    go_enter Try.func50, Try.ntmps50
    go_wp2_with (first | (go_at_call 49; refine (must_t (by first | (simp; omega) | (simp; done) | rfl) _ _).mono ?_; rintro e w' ⟨rfl, rfl⟩) | (go_at_call 49; refine (must_f (by first | (simp; omega) | (simp; done) | rfl) _ _).mono ?_; rintro e w' ⟨rfl, rfl⟩))
    exact ⟨rfl, RdIs.err (rd_end f d hdp) (h0 _)⟩
  | cons t y =>
    obtain ⟨B, off, rfl, hc⟩ := hin.1.2.2.2.resolve_left (by simp at hn; omega)
    have ht : t < 256 := hin.1.2.2.1 t (by simp)
    have c0 := hc 0 (by simp at hn; omega)
    simp at c0
    have hn1 : y.length + 1 = n := by simpa using hn
    have HI := Lib.hid hin
    have h1 : ∀ o, (w.alloc o).cell? ⟨B, off, none⟩ = some (.int .u8 (t : Nat)) := fun o => ((h0 o).cell (World.block_lt_of_cell? w _ c0)).trans c0
    have hBw : B < w.heap.size := World.block_lt_of_cell? w _ c0
    clear hin hc
    have hn0 : (0 : Int) < (n : Int) := by omega
    by_cases htag : t % 32 = 31
    · go_enter Try.func50, Try.ntmps50
      go_wp2_with (first | (go_at_call 49; refine (must_t (by first | (simp; omega) | (simp; done) | rfl) _ _).mono ?_; rintro e w' ⟨rfl, rfl⟩) | (go_at_call 83; refine (isTag_any t ht _).mono ?_; rintro e w' ⟨rfl, rfl⟩) | (go_at_call 49; refine (must_f (by first | (simp; omega) | (simp; done) | rfl) _ _).mono ?_; rintro e w' ⟨rfl, rfl⟩))
      exact ⟨rfl, RdIs.err (rd_tag f d t y hdp htag) (h0 _)⟩
    by_cases hc1 : c = 1
    · obtain rfl : n = 1 := by omega
      obtain rfl : y = [] := List.eq_nil_of_length_eq_zero (by omega)
      have HE := Lib.hid (rd_lenbad f d t [] 122 hdp htag rfl)
      subst hc1
      go_enter Try.func50, Try.ntmps50
      go_wp2_with (first | (go_at_call 49; refine (must_t (by first | (simp; omega) | (simp; done) | rfl) _ _).mono ?_; rintro e w' ⟨rfl, rfl⟩) | (go_at_call 83; refine (isTag_any t ht _).mono ?_; rintro e w' ⟨rfl, rfl⟩) | (go_at_call 84; refine (length_bad (l := []) (x := 122) rfl _ _ _ _ (bin_empty _ _ _ (by simp) (fun h => by cases h))).mono ?_; rintro e w' ⟨rfl, hbel⟩))
      exact ⟨rfl, RdIs.err HE.out ((h0 _).trans (hbel.mono (by simp)))⟩
    have hbin : ∀ w', Below w.heap.size w w' → BIn w' (some ⟨B, off + 1, none⟩) (n - 1) (c - 1) y := fun w' hb => by
      have := (bin_drop HI.out (f := 1) (by omega) (by omega) (some ⟨B, off + 1, none⟩) (.inr rfl)).below hb; simpa using this
    have HB := Lib.hid hbin
    clear hbin
    cases hE : lenE y with
    | error x =>
      have HE := Lib.hid hE
      clear hE
      go_enter Try.func50, Try.ntmps50
      go_wp2_with (first | (go_at_call 49; refine (must_t (by first | (simp; omega) | (simp; done) | rfl) _ _).mono ?_; rintro e w' ⟨rfl, rfl⟩) | (go_at_call 83; refine (isTag_any t ht _).mono ?_; rintro e w' ⟨rfl, rfl⟩) | (go_at_call 84; refine (length_bad HE.out _ _ _ _ (HB.out _ (h0 _))).mono ?_; rintro e w' ⟨rfl, hbel⟩))
      exact ⟨rfl, RdIs.err (rd_lenbad f d t y x hdp htag HE.out) ((h0 _).trans (hbel.mono (by simp)))⟩
    | ok p =>
      obtain ⟨v, r⟩ := p
      have HE := Lib.hid hE
      have hrl := lenE_some hE
      clear hE
      have hvi : v < 4294967296 ∨ True := .inr trivial
      by_cases hs : r.length < v
      · go_enter Try.func50, Try.ntmps50
        go_wp2_with (first | (go_at_call 49; refine (must_t (by first | (simp; omega) | (simp; done) | rfl) _ _).mono ?_; rintro e w' ⟨rfl, rfl⟩) | (go_at_call 83; refine (isTag_any t ht _).mono ?_; rintro e w' ⟨rfl, rfl⟩) | (go_at_call 84; refine (length_good HE.out _ _ _ _ (HB.out _ (h0 _))).mono ?_; rintro e w' ⟨B1, f1, o1, c1, hB1, rfl, hb1, hbel⟩; injection hB1 with hB1; injection hB1 with hB1 hf1; subst hB1; clear hf1) | (go_at_call 49; refine (must_f (by first | (simp; omega) | (simp; done) | rfl) _ _).mono ?_; rintro e w' ⟨rfl, rfl⟩))
        exact ⟨rfl, RdIs.err (rd_short f d t y v r hdp htag HE.out hs) ((h0 _).trans (hbel.mono (by simp)))⟩
      have hvr : (v : Int) ≤ (r.length : Int) := by omega
      go_enter Try.func50, Try.ntmps50
      go_wp2_with (first | (go_at_call 49; refine (must_t (by first | (simp; omega) | (simp; done) | rfl) _ _).mono ?_; rintro e w' ⟨rfl, rfl⟩) | (go_at_call 83; refine (isTag_any t ht _).mono ?_; rintro e w' ⟨rfl, rfl⟩) | (go_at_call 84; refine (length_good HE.out _ _ _ _ (HB.out _ (h0 _))).mono ?_; rintro e w' ⟨B1, f1, o1, c1, hB1, rfl, hb1, hbel⟩; injection hB1 with hB1; injection hB1 with hB1 hf1; subst hB1; clear hf1))
      have D := Blk.below' (Blk.new w 25 [.int .u8 0, .slice none 0 0, .slice none 0 0]) hbel
      have hbw := (h0 (.cells #[.int .u8 0, .slice none 0 0, .slice none 0 0] 25)).trans (hbel.mono (by simp))
      have hsz := hbel.size
      simp only [World.size_alloc] at hsz
      clear hbel
      have hrc := hb1.2.1
      have hvc : (v : Int) ≤ (c1 : Int) := by omega
      go_quiet (fail)
      have DD := Lib.hid (D.drewN nq)
      have hbq := Lib.hid (below_drewN hbw nq)
      have hsq : w.heap.size + 1 ≤ (w'.drewN nq).heap.size := hsz
      have HT := Lib.hid (bin_headZ (f := v) hb1 (by omega))
      have HD := Lib.hid (fun (A : Option Addr) (hA : A = some ⟨B, o1, none⟩ ∧ r.length - v = 0 ∨ A = some ⟨B, o1 + v, none⟩) (cc : Nat) (hcc : cc = c1 - v) (wx : World) (hbx : Below (w'.drewN nq).heap.size (w'.drewN nq) wx) => (by rw [hcc]; exact ((bin_dropZ hb1 (f := v) (by omega) A hA).below (below_drewN (Below.refl _ _) nq)).below hbx : BIn wx A (r.length - v) cc (r.drop v)))
      have HT2 := Lib.hid (HT.out.below (below_drewN (Below.refl _ _) nq))
      clear hb1 D hbw hsz HT
      generalize w'.drewN nq = wq at *
      by_cases hkd : t / 32 % 2 = 1
      · have hlen : (r.take v).length = v := by simp; omega
        have hC := IH (d + 1) (r.take v) wq (some ⟨B, o1, none⟩) v c1 (by simp at hf; omega) (by simp at hl; omega) (by omega) HT2.out
        rw [show (((d + 1 : Nat)) : Int) = (d : Int) + 1 by omega] at hC
        cases hR : rdA f (d + 1) (r.take v) with
        | error x =>
          rw [hR] at hC
          have HC := Lib.hid (ra_bad rfl hC)
          have HE2 := Lib.hid (rd_kidsE f d t y v r x hdp htag HE.out hs hkd hR)
          clear hC hR IH
          go_wp2_with (first | (go_at_call 85; refine (hasKids_any t ht _).mono ?_; rintro e w' ⟨rfl, rfl⟩) | (go_at_call 86; refine HC.out.mono ?_; rintro e w2 ⟨rfl, hb2⟩))
          all_goals exact ⟨rfl, RdIs.err HE2.out (hbq.out.trans (hb2.mono hbq.out.size))⟩
        | ok T =>
          rw [hR] at hC
          have HC := Lib.hid (ra_good rfl hC)
          have HE2 := Lib.hid (rd_kidsK f d t y v r T hdp htag HE.out hs hkd hR)
          clear hC hR IH
          go_wp2_with (first | (go_at_call 85; refine (hasKids_any t ht _).mono ?_; rintro e w' ⟨rfl, rfl⟩) | (go_at_call 86; refine HC.out.mono ?_; rintro e w2 ⟨vv, ys, L, rfl, hT, hown, hV, hND, hb2⟩; obtain ⟨a2, c2, rfl⟩ := own_slice hown; have HO := Lib.hid hown; have HV := Lib.hid hV; have HN := Lib.hid hND; have D2 := Lib.hid (DD.out.below' hb2); clear hown hV hND) | (refine wpList_store_row (P := Try.prog) rfl 25 (.tmp 4) (.tmp 47) rfl w.heap.size #[.int .u8 (t : Nat), .slice none 0 0, .slice a2 T.len c2] rfl rfl 25 _ D2.out info25 rfl (all_item _ _ _ _ _ _ _) ?_))
          all_goals
            have D3 := D2.out.setRow [.int .u8 (t : Nat), .slice none 0 0, .slice a2 T.len c2]
            have hb9 := below_setRow' (hbq.out.trans (hb2.mono hbq.out.size)) (Nat.le_refl w.heap.size) #[.int .u8 (t : Nat), .slice none 0 0, .slice a2 T.len c2]
            have hlt := HV.out.lt
            have hkeep : ∀ g, wq.heap.size ≤ g → (w2.setRow w.heap.size #[.int .u8 (t : Nat), .slice none 0 0, .slice a2 T.len c2]).heap[g]? = w2.heap[g]? := fun g hg => setRow_other w2 w.heap.size g _ (by omega)
            have hO2 := ownsMono (own_keep HO.out fun g hg => hkeep g (own_ob_lt HO.out g hg).1) hbq.out.size
            have hV2 := (HV.out.keep fun g hg => hkeep g (hlt g hg).1).mono hbq.out.size
            have hI := OwnV.mk (t := t) (b := []) (k := T) ht (by simp) (by simp) hT (World.ownsRow_nil _ _ _ _) hO2 hV2
            refine bodyPost_ret (results_two Try.results50 _ _ w.heap.size 25 _ (0, 0) _ _ rfl rfl D3 Try.underlying25 rfl info25) rfl ?_
            have hbn := fun A hA cc hcc => (HD.out A hA cc hcc w2 hb2).grown (grown_setRow w2 w.heap.size #[.int .u8 (t : Nat), .slice none 0 0, .slice a2 T.len c2]) (fun b hb _ => by rcases hA with ⟨rfl, _⟩ | rfl <;> (injection hb with hb; subst hb; simp; omega))
            refine RdIs.good HE2.out hb9 (by simp) hI HN.out (hbn _ ?_ _ ?_) ⟨_, rfl⟩
            · first
                | exact .inr rfl
                | exact .inl ⟨rfl, by omega⟩
            · omega
      · have hlen : (r.take v).length = v := by simp; omega
        have hxs : ∀ x ∈ r.take v, x < 256 := HT2.out.1.2.2.1
        have hC := clone_any (some ⟨B, o1, none⟩) v c1 (r.take v) wq HT2.out
        have HC := Lib.hid hC
        have HE2 := Lib.hid (rd_body f d t y v r hdp htag HE.out hs hkd)
        have HXS := Lib.hid hxs
        clear hC IH hxs
        have HT3 := Lib.hid hlen
        generalize r.take v = xs at *
        clear hlen
        go_wp2_with (first | (go_at_call 85; refine (hasKids_any t ht _).mono ?_; rintro e w' ⟨rfl, rfl⟩) | (go_at_call 75; refine HC.out.mono ?_; rintro e w2 ⟨vv, rfl, hown, hb2⟩; rw [HT3.out] at hown; obtain ⟨a2, c2, rfl⟩ := own_slice hown; have HO := Lib.hid hown; have D2 := Lib.hid (DD.out.below' hb2); clear hown) | (refine wpList_store_row (P := Try.prog) rfl 25 (.tmp 4) (.tmp 52) rfl w.heap.size #[.int .u8 (t : Nat), .slice a2 v c2, .slice none 0 0] rfl rfl 25 _ D2.out info25 rfl (all_item _ _ _ _ _ _ _) ?_))
        all_goals
          have D3 := D2.out.setRow [.int .u8 (t : Nat), .slice a2 v c2, .slice none 0 0]
          have hb9 := below_setRow' (hbq.out.trans (hb2.mono hbq.out.size)) (Nat.le_refl w.heap.size) #[.int .u8 (t : Nat), .slice a2 v c2, .slice none 0 0]
          have hO2 := ownsMono (own_keep HO.out fun g hg => setRow_other w2 w.heap.size g #[.int .u8 (t : Nat), .slice a2 v c2, .slice none 0 0] (by have := (own_ob_lt HO.out g hg).1; omega)) hbq.out.size
          have hI := OwnV.mk (t := t) (b := xs) (k := .nil) (L1 := []) ht HXS.out (by rw [HT3.out]; simp at hl; omega) (Nat.zero_le _) (by rw [HT3.out]; exact hO2) (World.ownsRow_nil _ _ _ _) ⟨rfl, rfl⟩
          refine bodyPost_ret (results_two Try.results50 _ _ w.heap.size 25 _ (0, 0) _ _ rfl rfl D3 Try.underlying25 rfl info25) rfl ?_
          have hbn := fun A hA cc hcc => (HD.out A hA cc hcc w2 hb2).grown (grown_setRow w2 w.heap.size #[.int .u8 (t : Nat), .slice a2 v c2, .slice none 0 0]) (fun b hb _ => by rcases hA with ⟨rfl, _⟩ | rfl <;> (injection hb with hb; subst hb; simp; omega))
          refine RdIs.good HE2.out hb9 (by simp) hI ?_ (hbn _ ?_ _ ?_) ⟨_, rfl⟩
          · cases a2 <;> simp [ob, Value.ownBlock]
          · first
              | exact .inr rfl
              | exact .inl ⟨rfl, by omega⟩
          · omega
end Go.Proofs.Ytbabpmncdphnjaa
