/- A sponge in memory and as plain arithmetic: its parts, its kinds, one byte taken in, one rate turned over. Condition: the table of constants. -/
import Derived.Test.YtidnlaibfkjgpaaDoorKPerm
namespace Go.Proofs.YtidnlaibfkjgpaaDoor
open Go.RowKit
set_option linter.unusedVariables false
/-! ### plain -/
def IsKind (k : Nat) : Prop := k = 1 ∨ k = 2 ∨ k = 3 ∨ k = 4 ∨ k = 5
def rateK (k : Nat) : Nat := if k = 2 then 104 else if k = 3 then 72 else if k = 4 then 168 else 136
def sizeK (k : Nat) : Int := if k = 2 then 48 else if k = 3 then 64 else if k = 4 then -1 else if k = 5 then -1 else 32
def endK (k : Nat) : Nat := if k = 4 then 31 else if k = 5 then 31 else 6
theorem rateK_le {k : Nat} (h : IsKind k) : rateK k ≤ 168 ∧ 72 ≤ rateK k ∧ rateK k % 8 = 0 := by
  rcases h with rfl | rfl | rfl | rfl | rfl <;> decide
/-- the state with a byte xored in -/
def putN (s : List Nat) (i x : Nat) : List Nat := s.set (i / 8) (xo (s.getD (i / 8) 0) (x * 2 ^ (8 * (i % 8))))
/-- a byte of the state -/
def byteN (s : List Nat) (i : Nat) : Nat := s.getD (i / 8) 0 / 2 ^ (8 * (i % 8)) % 256
/-- the next byte's place -/
def stepN (r : Nat) (p : List Nat × Nat) : List Nat × Nat := if p.2 + 1 = r then (perm p.1, 0) else (p.1, p.2 + 1)
/-- one byte taken in -/
def absN (r : Nat) (p : List Nat × Nat) (x : Nat) : List Nat × Nat := stepN r (putN p.1 p.2 x, p.2)
def absL (r : Nat) (p : List Nat × Nat) (l : List Nat) : List Nat × Nat := l.foldl (absN r) p
/-- what stands behind the message -/
def endN (k : Nat) (p : List Nat × Nat) : List Nat := perm (putN (putN p.1 p.2 (endK k)) (rateK k - 1) 128)
def sqS (r : Nat) (p : List Nat × Nat) : Nat → List Nat × Nat
  | 0 => p
  | n + 1 => stepN r (sqS r p n)
/-- so many bytes given out -/
def sqB (r : Nat) (p : List Nat × Nat) (n : Nat) : List Nat := tell (fun i => byteN (sqS r p i).1 (sqS r p i).2) n
theorem putN_good {s : List Nat} (h : Good s) (i x : Nat) : Good (putN s i x) := by
  refine ⟨by simp [putN, h.1], fun y hy => ?_⟩
  rcases List.mem_or_eq_of_mem_set hy with hy | rfl
  · exact h.2 y hy
  · exact xo_lt _ _
theorem stepN_good {r : Nat} {p : List Nat × Nat} (h : Good p.1) : Good (stepN r p).1 := by
  unfold stepN; split
  · exact perm_good h
  · exact h
theorem stepN_lt {r : Nat} {p : List Nat × Nat} (hr : 0 < r) (h : p.2 < r) : (stepN r p).2 < r := by
  unfold stepN; split
  · exact hr
  · simp only; omega
theorem absL_good {r : Nat} (hr : 0 < r) : ∀ (l : List Nat) (p : List Nat × Nat), Good p.1 → p.2 < r → Good (absL r p l).1 ∧ (absL r p l).2 < r
  | [], p, h, h2 => ⟨h, h2⟩
  | x :: l, p, h, h2 => absL_good hr l _ (stepN_good (putN_good h _ _)) (stepN_lt hr (by exact h2))
theorem sqS_good {r : Nat} (hr : 0 < r) {p : List Nat × Nat} (h : Good p.1) (h2 : p.2 < r) : ∀ n, Good (sqS r p n).1 ∧ (sqS r p n).2 < r
  | 0 => ⟨h, h2⟩
  | n + 1 => ⟨stepN_good (sqS_good hr h h2 n).1, stepN_lt hr (sqS_good hr h h2 n).2⟩
theorem endN_good {k : Nat} {p : List Nat × Nat} (h : Good p.1) : Good (endN k p) := perm_good (putN_good (putN_good h _ _) _ _)
theorem sqB_length (r : Nat) (p : List Nat × Nat) (n : Nat) : (sqB r p n).length = n := tell_length _ _
theorem sqB_lt (r : Nat) (p : List Nat × Nat) (n : Nat) : ∀ x ∈ sqB r p n, x < 256 := tell_lt _ _ (fun _ => Nat.mod_lt _ (by decide)) _
theorem absL_snoc (r : Nat) (p : List Nat × Nat) (l : List Nat) (x : Nat) : absL r p (l ++ [x]) = absN r (absL r p l) x := by simp [absL]
theorem absL_append (r : Nat) (p : List Nat × Nat) (a b : List Nat) : absL r p (a ++ b) = absL r (absL r p a) b := by simp [absL]
/-! ### in memory -/
def spV (k at' : Nat) (gv : Bool) (lf : Int) (s : List Nat) : List Value := .int .i64 (k : Nat) :: (natsV .u64 s ++ [.int .i64 (at' : Nat), .bool gv, .int .i64 lf])
theorem sp_kind {w : World} {g k a : Nat} {gv : Bool} {lf : Int} {s : List Nat} (h : Blk w g 76 (spV k a gv lf s)) : w.cell? ⟨g, 0, none⟩ = some (.int .i64 (k : Nat)) := by rw [h.cell]; rfl
theorem sp_word {w : World} {g k a : Nat} {gv : Bool} {lf : Int} {s : List Nat} (h : Blk w g 76 (spV k a gv lf s)) (i : Nat) (hi : i < s.length) : w.cell? ⟨g, 1 + i, none⟩ = some (.int .u64 (s.getD i 0 : Nat)) := by
  rw [h.cell, Nat.add_comm, ← natsV_get .u64 s i hi]
  show (natsV .u64 s ++ _)[i]? = _
  rw [List.getElem?_append_left (by rw [natsV_length]; exact hi)]
theorem sp_tail {w : World} {g k a : Nat} {gv : Bool} {lf : Int} {s : List Nat} (h : Blk w g 76 (spV k a gv lf s)) (hs : s.length = 25) (i : Nat) : w.cell? ⟨g, 26 + i, none⟩ = ([.int .i64 (a : Nat), .bool gv, .int .i64 lf] : List Value)[i]? := by
  rw [h.cell, show 26 + i = (25 + i) + 1 by omega]
  show (natsV .u64 s ++ _)[25 + i]? = _
  rw [List.getElem?_append_right (by rw [natsV_length, hs]; omega), natsV_length, hs, Nat.add_sub_cancel_left]
theorem sp_at {w : World} {g k a : Nat} {gv : Bool} {lf : Int} {s : List Nat} (h : Blk w g 76 (spV k a gv lf s)) (hs : s.length = 25) : w.cell? ⟨g, 26, none⟩ = some (.int .i64 (a : Nat)) := sp_tail h hs 0
theorem sp_gv {w : World} {g k a : Nat} {gv : Bool} {lf : Int} {s : List Nat} (h : Blk w g 76 (spV k a gv lf s)) (hs : s.length = 25) : w.cell? ⟨g, 27, none⟩ = some (.bool gv) := sp_tail h hs 1
theorem sp_lf {w : World} {g k a : Nat} {gv : Bool} {lf : Int} {s : List Nat} (h : Blk w g 76 (spV k a gv lf s)) (hs : s.length = 25) : w.cell? ⟨g, 28, none⟩ = some (.int .i64 lf) := sp_tail h hs 2
theorem sp_words {w : World} {g k a : Nat} {gv : Bool} {lf : Int} {s : List Nat} (h : Blk w g 76 (spV k a gv lf s)) : w.rangeAt g 1 (natsV .u64 s) := by
  intro j v hv
  have hj : j < (natsV .u64 s).length := (List.getElem?_eq_some_iff.1 hv).1
  rw [sp_word h j (by rwa [natsV_length] at hj), ← hv, natsV_get .u64 s j (by rwa [natsV_length] at hj)]
theorem sp_there {w : World} {g k a : Nat} {gv : Bool} {lf : Int} {s : List Nat} (h : Blk w g 76 (spV k a gv lf s)) (hs : s.length = 25) (o m : Nat) (ho : o + m ≤ 29) : w.there g o m := by
  intro j hj
  refine ⟨?_, h.free _⟩
  rw [h.cell, List.getElem?_eq_getElem (by simp [spV, natsV_length, hs]; omega)]; rfl
theorem sp_setWord {w : World} {g k a : Nat} {gv : Bool} {lf : Int} {s : List Nat} (h : Blk w g 76 (spV k a gv lf s)) (i x : Nat) (hi : i < s.length) : Blk (w.setCell ⟨g, 1 + i, none⟩ (.int .u64 (x : Nat))) g 76 (spV k a gv lf (s.set i x)) := by
  have h1 := h.set (1 + i) (.int .u64 (x : Nat))
  have e : (spV k a gv lf s).set (1 + i) (.int .u64 (x : Nat)) = spV k a gv lf (s.set i x) := by
    unfold spV
    rw [Nat.add_comm, List.set_cons_succ, List.set_append_left _ _ (by rw [natsV_length]; exact hi), natsV_set]
  rw [e] at h1; exact h1
theorem sp_setTail {w : World} {g k a : Nat} {gv : Bool} {lf : Int} {s : List Nat} (h : Blk w g 76 (spV k a gv lf s)) (hs : s.length = 25) (i : Nat) (v : Value) : Blk (w.setCell ⟨g, 26 + i, none⟩ v) g 76 (.int .i64 (k : Nat) :: (natsV .u64 s ++ ([.int .i64 (a : Nat), .bool gv, .int .i64 lf] : List Value).set i v)) := by
  have h1 := h.set (26 + i) v
  have e : (spV k a gv lf s).set (26 + i) v = .int .i64 (k : Nat) :: (natsV .u64 s ++ ([.int .i64 (a : Nat), .bool gv, .int .i64 lf] : List Value).set i v) := by
    unfold spV
    rw [show 26 + i = (25 + i) + 1 by omega, List.set_cons_succ, List.set_append_right _ _ (by rw [natsV_length, hs]; omega), natsV_length, hs, Nat.add_sub_cancel_left]
  rw [e] at h1; exact h1
theorem sp_setAt {w : World} {g k a : Nat} {gv : Bool} {lf : Int} {s : List Nat} (h : Blk w g 76 (spV k a gv lf s)) (hs : s.length = 25) (b : Nat) : Blk (w.setCell ⟨g, 26, none⟩ (.int .i64 (b : Nat))) g 76 (spV k b gv lf s) := sp_setTail h hs 0 _
theorem sp_setGv {w : World} {g k a : Nat} {gv : Bool} {lf : Int} {s : List Nat} (h : Blk w g 76 (spV k a gv lf s)) (hs : s.length = 25) (b : Bool) : Blk (w.setCell ⟨g, 27, none⟩ (.bool b)) g 76 (spV k a b lf s) := sp_setTail h hs 1 _
theorem sp_setLf {w : World} {g k a : Nat} {gv : Bool} {lf : Int} {s : List Nat} (h : Blk w g 76 (spV k a gv lf s)) (hs : s.length = 25) (b : Int) : Blk (w.setCell ⟨g, 28, none⟩ (.int .i64 b)) g 76 (spV k a gv b s) := sp_setTail h hs 2 _
theorem sp_setWords {w : World} {g k a : Nat} {gv : Bool} {lf : Int} {s s' : List Nat} (h : Blk w g 76 (spV k a gv lf s)) (hl : s.length = s'.length) : Blk (w.setCells g 1 (natsV .u64 s')) g 76 (spV k a gv lf s') := by
  have h1 := setCells_blk g 76 (natsV .u64 s') 1 w _ h
  have h2 := setL_mid (natsV .u64 s') (natsV .u64 s) [.int .i64 (k : Nat)] [.int .i64 (a : Nat), .bool gv, .int .i64 lf] (by simp [natsV_length, hl])
  have e : setL (spV k a gv lf s) 1 (natsV .u64 s') = spV k a gv lf s' := h2
  rw [e] at h1; exact h1
/-- a sponge at block g -/
def SpAt (w : World) (g k a : Nat) (gv : Bool) (lf : Int) (s : List Nat) : Prop := IsKind k ∧ Good s ∧ a < rateK k ∧ 1 ≤ g ∧ Blk w g 76 (spV k a gv lf s)
/-- what a call answers that turns the sponge at g alone -/
def SpIs (g k a : Nat) (gv : Bool) (lf : Int) (s : List Nat) (w : World) (e : Ending) (w' : World) : Prop := e = .returned (.tuple #[]) ∧ Blk w' g 76 (spV k a gv lf s) ∧ w.grownBy w' (some g)
set_option maxHeartbeats 400000 in
theorem rateOf_any (k : Nat) (hk : IsKind k) (w : World) : Calls Tryd.prog 47 #[.int .i64 (k : Nat)] w fun e w' => e = .returned (.int .i64 (rateK k : Nat)) ∧ w = w' := by
  rcases hk with rfl | rfl | rfl | rfl | rfl
  all_goals
    go_enter Tryd.func47, Tryd.ntmps47
    go_wp2_with fail
    go_ret
    exact ⟨rfl, rfl⟩
set_option maxHeartbeats 400000 in
theorem sizeOf_any (k : Nat) (hk : IsKind k) (w : World) : Calls Tryd.prog 41 #[.int .i64 (k : Nat)] w fun e w' => e = .returned (.int .i64 (sizeK k)) ∧ w = w' := by
  rcases hk with rfl | rfl | rfl | rfl | rfl
  all_goals
    go_enter Tryd.func41, Tryd.ntmps41
    go_wp2_with fail
    go_ret
    exact ⟨rfl, rfl⟩
set_option maxHeartbeats 400000 in
theorem endingOf_any (k : Nat) (hk : IsKind k) (w : World) : Calls Tryd.prog 49 #[.int .i64 (k : Nat)] w fun e w' => e = .returned (.int .u8 (endK k : Nat)) ∧ w = w' := by
  have H := Lib.hid (fun w => sizeOf_any k hk w)
  rcases hk with rfl | rfl | rfl | rfl | rfl
  all_goals
    go_enter Tryd.func49, Tryd.ntmps49
    go_wp2_with fail
    refine (H.out _).mono ?_
    rintro e w' ⟨rfl, rfl⟩
    simp only [sizeK]
    go_wp2_with fail
    go_ret
    exact ⟨rfl, rfl⟩
set_option maxRecDepth 100000 in
set_option maxHeartbeats 800000 in
theorem put_any (g k a : Nat) (gv : Bool) (lf : Int) (s : List Nat) (i x : Nat) (w : World) (hs : Good s) (hi : i < 200) (hx : x < 256) (h : Blk w g 76 (spV k a gv lf s)) :
    Calls Tryd.prog 42 #[.pointer (some ⟨g, 0, none⟩), .int .i64 (i : Nat), .int .u8 (x : Nat)] w (SpIs g k a gv lf (putN s i x) w) := by
  have HB := Lib.hid h
  have hc := sp_word h (i / 8) (by rw [hs.1]; omega)
  have hf := h.free (1 + i / 8)
  have HP := Lib.hid (show putN s i x = s.set (i / 8) (xo (s.getD (i / 8) 0) (x * 2 ^ (8 * (i % 8)))) from rfl)
  have HL := Lib.hid hs.1
  clear h hs
  have m1 : (i : Int).tdiv 8 = ((i / 8 : Nat) : Int) := by rw [Int.tdiv_eq_ediv_of_nonneg (by omega)]; omega
  have m2 : (i : Int).tmod 8 = ((i % 8 : Nat) : Int) := by rw [Int.tmod_eq_emod_of_nonneg (by omega)]; omega
  have e1 : IntKind.i64.wrap (8 * ((i % 8 : Nat) : Int)) = ((8 * (i % 8) : Nat) : Int) := by rw [IntWalk.i64_in _ (by omega)]; omega
  have hE : 8 * (i % 8) ≤ 56 := by omega
  have e2 : min (8 * (i % 8)) 64 = 8 * (i % 8) := by omega
  have hsh : x * 2 ^ (8 * (i % 8)) < 2 ^ 64 := by
    have h1 : 2 ^ (8 * (i % 8)) ≤ 2 ^ 56 := Nat.pow_le_pow_right (by decide) hE
    have h2 : x * 2 ^ (8 * (i % 8)) ≤ 255 * 2 ^ 56 := Nat.mul_le_mul (by omega) h1
    exact Nat.lt_of_le_of_lt h2 (by decide)
  have e3 : IntKind.u64.wrap ((x : Int) * 2 ^ (8 * (i % 8))) = ((x * 2 ^ (8 * (i % 8)) : Nat) : Int) := by rw [cast_pow, ← Int.natCast_mul, IntKind.wrap_u64]; omega
  have w1 : IntKind.i64.wrap ((i / 8 : Nat) : Int) = ((i / 8 : Nat) : Int) := by rw [IntWalk.i64_in _ (by omega)]
  have w2 : IntKind.i64.wrap ((i % 8 : Nat) : Int) = ((i % 8 : Nat) : Int) := by rw [IntWalk.i64_in _ (by omega)]
  have i1 : ((i / 8 : Nat) : Int) < 25 := by omega
  have i1n : i / 8 < 25 := by omega
  have i2 : ((8 * (i % 8) : Nat) : Int) < 64 := by omega
  generalize x * 2 ^ (8 * (i % 8)) = sh at *
  generalize 8 * (i % 8) = E at *
  generalize i % 8 = r at *
  generalize i / 8 = p at *
  generalize s.getD p 0 = v at *
  have rx := u64_xo
  go_enter Tryd.func42, Tryd.ntmps42
  go_wp2_with fail
  refine wp_region_still_tail 17 (by kernel_rfl) (by kernel_rfl) ?_
  change wpStill _ _ w.drew _ _ _
  simp only [List.take_succ_cons, List.take_zero, List.drop_succ_cons, List.drop_zero]
  iterate 17 still_step
  refine wpStill_nil ?_
  change wpList _ _ _ _ _ w.drew
  clear m1 m2 e1 w1 w2
  go_wp2_with fail
  rw [e3, rx]
  go_end0
  refine ⟨rfl, ?_, ?_⟩
  · rw [HP.out]; exact (sp_setWord HB.out p (xo v sh) (by rw [HL.out]; exact i1n)).drew
  · exact grown_drewN (grown_setCell w ⟨g, 1 + p, none⟩ (.int .u64 (xo v sh : Nat))) 1
set_option maxRecDepth 100000 in
set_option maxHeartbeats 800000 in
theorem turnOver_any (g k a : Nat) (gv : Bool) (lf : Int) (s : List Nat) (w : World) (hs : Good s) (hg : 1 ≤ g) (h : Blk w g 76 (spV k a gv lf s)) (htab : Tabs w) :
    Calls Tryd.prog 48 #[.pointer (some ⟨g, 0, none⟩)] w (SpIs g k 0 gv lf (perm s) w) := by
  have HB := Lib.hid h
  have HR := Lib.hid (sp_words h)
  have HP := Lib.hid (permute_any s w hs htab)
  have HL := Lib.hid hs.1
  have HL2 := Lib.hid (perm_good hs).1
  clear h htab hs
  generalize perm s = m at *
  go_enter Tryd.func48, Tryd.ntmps48
  go_wp2_with (refine wpList_load_mid rfl 23 (.tmp 5) rfl g 1 rfl (natsV .u64 s) _ HR.out Tryd.underlying23 rfl (by rw [info23, natsV_length, HL.out]) ?_)
  refine HP.out.mono ?_
  rintro e w1 ⟨rfl, hb⟩
  have HB1 := Lib.hid (HB.out.below' hb)
  have HT := Lib.hid (sp_there HB1.out HL.out 1 (natsV .u64 m).toArray.size (by rw [size_nats, HL2.out]; decide))
  have HB2 := Lib.hid (sp_setWords (s' := m) HB1.out (by rw [HL.out, HL2.out]))
  have hc := sp_at HB2.out HL2.out
  have hf := HB2.out.free 26
  have HG := Lib.hid (grown_trans (grown_trans (grown_below hb (some g)) (grown_setCells g (natsV .u64 m) 1 w1)) (grown_setCell (w1.setCells g 1 (natsV .u64 m)) ⟨g, 26, none⟩ (.int .i64 (0 : Nat))))
  have HB3 := Lib.hid (sp_setAt HB2.out HL2.out 0)
  clear HB HB1 HR HP hb
  go_wp2_with (refine wpList_store_mid rfl 23 (.tmp 9) (.tmp 7) rfl g 1 (natsV .u64 m).toArray rfl rfl HT.out (by rw [info23, size_nats, HL2.out]) (all_nats _ _) ?_)
  go_end0
  exact ⟨rfl, HB3.out, HG.out⟩
/-- 'step', wherever it stands -/
def StepIs (g k a : Nat) (gv : Bool) (lf : Int) (s : List Nat) (w : World) (e : Ending) (w' : World) : Prop := SpIs g k (stepN (rateK k) (s, a)).2 gv lf (stepN (rateK k) (s, a)).1 w e w'
set_option maxRecDepth 100000 in
set_option maxHeartbeats 800000 in
theorem step_any (g k a : Nat) (gv : Bool) (lf : Int) (s : List Nat) (w : World) (h : SpAt w g k a gv lf s) (htab : Tabs w) :
    Calls Tryd.prog 43 #[.pointer (some ⟨g, 0, none⟩)] w (StepIs g k a gv lf s w) := by
  obtain ⟨hk, hs, ha, hg, hb⟩ := h
  have hr := (rateK_le hk).1
  have HRT := Lib.hid (fun w => flipC (rateOf_any k hk w))
  have h1 := sp_at hb hs.1
  have hf1 := hb.free 26
  have HB := Lib.hid hb
  have HB1 := Lib.hid (sp_setAt hb hs.1 (a + 1))
  have h2 := sp_at HB1.out hs.1
  have h3 := sp_kind HB1.out
  have HG1 := Lib.hid (grown_setCell w ⟨g, 26, none⟩ (.int .i64 (a + 1 : Nat)))
  have HS := Lib.hid hs
  have HTAB := Lib.hid (htab.grown HG1.out hg)
  clear htab hs hk hb
  have e1 : (a : Int) + 1 = ((a + 1 : Nat) : Int) := by omega
  unfold StepIs
  have HST := Lib.hid (show stepN (rateK k) (s, a) = if a + 1 = rateK k then (perm s, 0) else (s, a + 1) from rfl)
  generalize rateK k = r at *
  have ha1 : a + 1 < 200 := by omega
  rw [HST.out]
  obtain ⟨W1, hW1⟩ : ∃ W1 : World, w.setCell ⟨g, 26, none⟩ (.int .i64 (a + 1 : Nat)) = W1 := ⟨_, rfl⟩
  rw [hW1] at HB1 HG1 HTAB h2 h3
  have HW := Lib.hid hW1
  clear hW1
  by_cases hq : a + 1 = r
  · have hqb : (((a + 1 : Nat) : Int) == (r : Int)) = true := by simp; omega
    rw [if_pos hq]
    clear HST hq
    generalize a + 1 = a1 at *
    go_enter Tryd.func43, Tryd.ntmps43
    go_wp2_with fail
    rw [HW.out]
    go_quiet ((go_at_call 47; exact Calls.quiet_of_same (HRT.out _)))
    go_wp2_with fail
    refine (turnOver_any g k a1 gv lf s (W1.drewN nq) HS.out hg HB1.out HTAB.out).mono ?_
    rintro e w' ⟨rfl, hb', hg'⟩
    go_wp2_with fail
    go_end0
    exact ⟨rfl, hb', grown_trans (grown_drewN HG1.out nq) hg'⟩
  · have hqb : (((a + 1 : Nat) : Int) == (r : Int)) = false := by simp; omega
    rw [if_neg hq]
    clear HST hq
    generalize a + 1 = a1 at *
    go_enter Tryd.func43, Tryd.ntmps43
    go_wp2_with fail
    rw [HW.out]
    go_quiet ((go_at_call 47; exact Calls.quiet_of_same (HRT.out _)))
    go_wp2_with fail
    go_end0
    exact ⟨rfl, HB1.out.drewN _, grown_drewN HG1.out _⟩
/-- 'take': all bytes are taken in -/
def TakeIs (g k : Nat) (gv : Bool) (lf : Int) (p : List Nat × Nat) (w : World) (e : Ending) (w' : World) : Prop := e = .returned (.tuple #[]) ∧ SpAt w' g k p.2 gv lf p.1 ∧ w.grownBy w' (some g)
set_option maxRecDepth 100000 in
set_option maxHeartbeats 1600000 in
theorem take_any (g k a : Nat) (gv : Bool) (lf : Int) (s : List Nat) (A : Option Addr) (n c : Nat) (l : List Nat) (w : World) (h : SpAt w g k a gv lf s) (hb : BIn w A n c l) (hne : ∀ b, A = some b → 0 < n → b.block ≠ g) (htab : Tabs w) :
    Calls Tryd.prog 35 #[.pointer (some ⟨g, 0, none⟩), .slice A n c] w (TakeIs g k gv lf (absL (rateK k) (s, a) l) w) := by
  obtain ⟨hk, hs, ha, hg, hblk⟩ := h
  have hr := (rateK_le hk)
  have hc1 := hb.2.1
  have hc2 := hb.2.2.1
  unfold maxLen at hc2
  have HB := Lib.hid hb
  have HNE := Lib.hid hne
  have HTAB := Lib.hid htab
  have HK := Lib.hid hk
  have HLN := Lib.hid hb.1.1
  have HGD := Lib.hid (fun m => absL_good (r := rateK k) (by omega) (l.take m) (s, a) hs ha)
  have HBLK := Lib.hid hblk
  clear hb hne htab hk hs hblk
  go_enter Tryd.func35, Tryd.ntmps35
  go_wp2_with fail
  go_loopw [8] (fun i wr => ∃ m : Nat, m ≤ n ∧ i = .int .i64 m ∧ Blk wr g 76 (spV k (absL (rateK k) (s, a) (l.take m)).2 gv lf (absL (rateK k) (s, a) (l.take m)).1) ∧ w.grownBy wr (some g)) (fun i _ => n - (intOf i).toNat)
  case atStart => exact ⟨0, by omega, rfl, HBLK.out, grown_refl _ _⟩
  case round =>
    clear HBLK
    obtain ⟨m, hm, rfl, hbl, hgr⟩ := hrel
    have hgd := HGD.out m
    have HBL := Lib.hid hbl
    have HGR := Lib.hid hgr
    clear hbl hgr
    by_cases hmn : m < n
    · have hmi : (m : Int) < (n : Int) := by omega
      obtain ⟨b, off, rfl, hcell⟩ := HB.out.1.2.2.2.resolve_left (by omega)
      have hcm := HGR.out.cell (hcell m hmn) (fun e => HNE.out ⟨b, off, none⟩ rfl (by omega) (by injection e))
      have hx := getD_lt HB.out.1.2.2.1 m
      have HSN := Lib.hid (show absL (rateK k) (s, a) (l.take (m + 1)) = stepN (rateK k) (putN (absL (rateK k) (s, a) (l.take m)).1 (absL (rateK k) (s, a) (l.take m)).2 (l.getD m 0), (absL (rateK k) (s, a) (l.take m)).2) from by
        rw [take_snoc l m (by rw [HLN.out]; exact hmn), absL_snoc]; rfl)
      have HT1 := Lib.hid (HTAB.out.grown HGR.out hg)
      clear hcell
      generalize l.getD m 0 = x at *
      generalize absL (rateK k) (s, a) (l.take m) = p at *
      obtain ⟨s1, a1⟩ := p
      have hat := sp_at HBL.out hgd.1.1
      have HS1 := Lib.hid hgd.1
      have ha1 : a1 < rateK k := hgd.2
      clear hgd
      have HPUT := Lib.hid (put_any g k a1 gv lf s1 a1 x wr HS1.out (by omega) hx HBL.out)
      go_wp2_with fail
      refine HPUT.out.mono ?_
      rintro e w1 ⟨rfl, hb1, hg1⟩
      have HSTEP := Lib.hid (step_any g k a1 gv lf (putN s1 a1 x) w1 ⟨HK.out, putN_good HS1.out _ _, ha1, hg, hb1⟩ (HT1.out.grown hg1 hg))
      have HG1 := Lib.hid (grown_trans HGR.out hg1)
      clear hb1 hg1 HPUT
      go_wp2_with fail
      refine HSTEP.out.mono ?_
      rintro e w2 ⟨rfl, hb2, hg2⟩
      have HG2 := Lib.hid (grown_trans HG1.out hg2)
      have HB2 := Lib.hid (show Blk w2 g 76 (spV k (absL (rateK k) (s, a) (l.take (m + 1))).2 gv lf (absL (rateK k) (s, a) (l.take (m + 1))).1) from by rw [HSN.out]; exact hb2)
      clear hb2 hg2 HG1 HSTEP
      go_wp2_with fail
      go_roundw
      case rel => exact ⟨m + 1, by omega, by go_num, HB2.out, HG2.out⟩
      case measure => simp [intOf]; omega
    · obtain rfl : m = n := by omega
      rw [List.take_of_length_le (by rw [HLN.out]; exact Nat.le_refl _)] at HBL hgd
      go_wp2_with fail
      go_end0
      exact ⟨rfl, ⟨HK.out, hgd.1, hgd.2, hg, HBL.out⟩, HGR.out⟩
set_option maxRecDepth 100000 in
set_option maxHeartbeats 1600000 in
theorem end_any (g k a : Nat) (gv : Bool) (lf : Int) (s : List Nat) (w : World) (h : SpAt w g k a gv lf s) (htab : Tabs w) :
    Calls Tryd.prog 44 #[.pointer (some ⟨g, 0, none⟩)] w (SpIs g k 0 true lf (endN k (s, a)) w) := by
  obtain ⟨hk, hs, ha, hg, hb⟩ := h
  have hr := (rateK_le hk)
  have HRT := Lib.hid (fun w => rateOf_any k hk w)
  have HEN := Lib.hid (fun w => flipC (endingOf_any k hk w))
  have hel : endK k < 256 := by unfold endK; split <;> (first | omega | (split <;> omega))
  have h1 := sp_at hb hs.1
  have h0 := sp_kind hb
  have HB := Lib.hid hb
  have HS := Lib.hid hs
  have HTAB := Lib.hid htab
  have HK := Lib.hid hk
  have HEND := Lib.hid (show endN k (s, a) = perm (putN (putN s a (endK k)) (rateK k - 1) 128) from rfl)
  clear htab hs hb hk
  have e1 : (rateK k : Int) - 1 = ((rateK k - 1 : Nat) : Int) := by omega
  have hr1 : rateK k - 1 < 200 := by omega
  generalize endK k = ek at *
  generalize rateK k = r at *
  generalize r - 1 = r1 at *
  go_enter Tryd.func44, Tryd.ntmps44
  go_wp2_with fail
  refine wp_region_still_tail 10 (by kernel_rfl) (by kernel_rfl) ?_
  change wpStill _ _ w.drew _ _ _
  simp only [List.take_succ_cons, List.take_zero, List.drop_succ_cons, List.drop_zero]
  iterate 9 still_step
  still_call (HEN.out _)
  refine wpStill_nil ?_
  change wpList _ _ _ _ _ w.drew
  go_wp2_with fail
  refine (put_any g k a gv lf s a ek w.drew HS.out (by omega) hel HB.out).mono ?_
  rintro e w1 ⟨rfl, hb1, hg1⟩
  have HB1 := Lib.hid hb1
  have HG1 := Lib.hid (grown_trans (grown_drewN (grown_refl w (some g)) 1) hg1)
  have h2 := sp_kind HB1.out
  have HS1 := Lib.hid (putN_good HS.out a ek)
  clear hb1 hg1 h0 h1
  generalize putN s a ek = s1 at *
  go_wp2_with fail
  refine (HRT.out _).mono ?_
  rintro e w' ⟨rfl, rfl⟩
  go_wp2_with fail
  refine (put_any g k a gv lf s1 r1 128 w1 HS1.out hr1 (by decide) HB1.out).mono ?_
  rintro e w2 ⟨rfl, hb2, hg2⟩
  have HG2 := Lib.hid (grown_trans HG1.out hg2)
  have HTO := Lib.hid (turnOver_any g k a gv lf (putN s1 r1 128) w2 (putN_good HS1.out _ _) hg hb2 (HTAB.out.grown HG2.out hg))
  have HS2 := Lib.hid (perm_good (putN_good HS1.out r1 128))
  rw [← HEND.out] at HTO HS2
  clear hb2 hg2 HG1 HB1 h2 HEND
  generalize endN k (s, a) = s3 at *
  go_wp2_with fail
  refine HTO.out.mono ?_
  rintro e w3 ⟨rfl, hb3, hg3⟩
  have hf := hb3.free 27
  have hgc := sp_gv hb3 HS2.out.1
  have HB4 := Lib.hid (sp_setGv hb3 HS2.out.1 true)
  have HG4 := Lib.hid (grown_trans (grown_trans HG2.out hg3) (grown_setCell w3 ⟨g, 27, none⟩ (.bool true)))
  clear hb3 hg3 HTO HG2
  go_wp2_with fail
  go_end0
  exact ⟨rfl, HB4.out, HG4.out⟩
end Go.Proofs.YtidnlaibfkjgpaaDoor
