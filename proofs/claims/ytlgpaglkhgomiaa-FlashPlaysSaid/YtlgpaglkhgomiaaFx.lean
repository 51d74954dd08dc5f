/- Write. Condition: the counter of writes is below 2^62. -/
import Derived.Test.YtlgpaglkhgomiaaFw
namespace Go.Proofs.Ytlgpaglkhgomiaa
open Go.RowKit
set_option linter.unusedVariables false
set_option maxRecDepth 100000
set_option linter.unusedSimpArgs false
theorem write_nil (n : Int) (v : Value) (w : World) : Calls Try.prog 22 #[.pointer none, .int .i64 n, v] w fun e w' => e = .returned (.int .i64 1) ∧ w = w' := by
  have H := Lib.hid (closed_nil n w)
  go_enter Try.func22, Try.ntmps22
  go_wp2_with (go_at_call 40; refine H.out.mono ?_; rintro e w' ⟨rfl, rfl⟩)
  go_ret
  exact ⟨rfl, rfl⟩
set_option maxHeartbeats 400000 in
theorem write_no (f mb : Nat) (N cut wr n : Int) (on dn : Bool) (v : Value) (w : World) (h : FlB w f mb N on cut dn wr) (E : Int) (hE : clE on N n = E) (hne : (E != 0) = true) :
    Calls Try.prog 22 #[.pointer (some ⟨f, 0, none⟩), .int .i64 n, v] w fun e w' => e = .returned (.int .i64 E) ∧ w = w' := by
  have H := Lib.hid (closed_any f mb N cut wr n on dn w h)
  rw [hE] at H
  clear h hE
  go_enter Try.func22, Try.ntmps22
  go_wp2_with (go_at_call 40; refine H.out.mono ?_; rintro e w' ⟨rfl, rfl⟩)
  go_ret
  exact ⟨rfl, rfl⟩
set_option maxHeartbeats 400000 in
theorem write_short (f mb : Nat) (N cut wr n : Int) (dn : Bool) (a : Option Addr) (k cp : Nat) (w : World) (h : FlB w f mb N true cut dn wr) (h0 : 0 ≤ n) (h1 : n < N) (hk : k ≠ 512) :
    Calls Try.prog 22 #[.pointer (some ⟨f, 0, none⟩), .int .i64 n, .slice a k cp] w fun e w' => e = .returned (.int .i64 142) ∧ w = w' := by
  have H := Lib.hid (closed_any f mb N cut wr n true dn w h)
  have hE : clE true N n = 0 := by simp [clE, h0, h1]
  rw [hE] at H
  have t1 : ((k : Int) != 512) = true := by simp; omega
  clear h hE hk
  go_enter Try.func22, Try.ntmps22
  go_wp2_with (go_at_call 40; refine H.out.mono ?_; rintro e w' ⟨rfl, rfl⟩)
  go_ret
  exact ⟨rfl, rfl⟩
theorem bin_range {w : World} {b o cp : Nat} {l : List Nat} (h : BIn w (some ⟨b, o, none⟩) 512 cp l) : w.rangeAt b o (natsV .u8 l) := by
  intro j v hv
  have hj : j < l.length := by have := (List.getElem?_eq_some_iff.1 hv).1; rwa [natsV_length] at this
  obtain ⟨b', o', e, hc⟩ := h.1.2.2.2.resolve_left (by omega)
  injection e with e
  injection e with e1 e2
  subst e1 e2
  rw [hc j (by rw [← h.1.1]; exact hj), ← hv, natsV_get _ _ _ hj]
theorem bin_isB {w : World} {a : Option Addr} {cp : Nat} {l : List Nat} (h : BIn w a 512 cp l) : IsB l := ⟨h.1.1, h.1.2.2.1⟩
theorem turn_refl {f mb : Nat} {N cut wr : Int} {on dn : Bool} {v : Value} {w : World} {e : Ending} {w' : World} (h : FlB w f mb N on cut dn wr) (q : e = .returned v ∧ w = w') : TurnF f mb N on cut dn wr v w e w' := by
  obtain ⟨rfl, rfl⟩ := q
  exact ⟨rfl, h, grown_refl _ _⟩
/-- what is common to all writes: up to the question whether power goes -/
theorem spend_any (f mb : Nat) (N cut wr : Int) (on dn : Bool) (w : World) (h : FlB w f mb N on cut dn wr) (cut' : Int) (g : Bool) (hc : (cut = 0 ∧ cut' = 0 ∧ g = false) ∨ (1 ≤ cut ∧ cut ≤ 9223372036854775807 ∧ cut' = cut - 1 ∧ g = decide (cut = 1))) :
    Calls Try.prog 41 #[.pointer (some ⟨f, 0, none⟩)] w (TurnF f mb N on cut' dn wr (.bool g) w) := by
  rcases hc with ⟨rfl, rfl, rfl⟩ | ⟨h0, h1, rfl, rfl⟩
  · exact (spend_none f mb N wr on dn w h).mono fun e w' q => turn_refl h q
  · refine spend_one f mb N cut wr on dn w h h0 h1 _ ?_
    by_cases q : cut = 1
    · subst q; rfl
    · simp [q]; omega
set_option maxHeartbeats 1600000 in
theorem write_go (f mb m : Nat) (N cut wr n : Int) (dn : Bool) (hs : Int → Bool) (c : Int → List Nat) (a : Option Addr) (cp : Nat) (l : List Nat) (w : World) (h : FlB w f mb N true cut dn wr) (hm : MAt w mb m hs c) (h0 : 0 ≤ n) (h1 : n < N) (hN : N ≤ 1048576)
    (hb : BIn w a 512 cp l) (hbf : ∀ q, a = some q → q.block ≠ f) (hmx : m < maxLen) (hw0 : 0 ≤ wr) (hw1 : wr ≤ 4611686018427387904) (cut' : Int) (hc : (cut = 0 ∧ cut' = 0) ∨ (2 ≤ cut ∧ cut ≤ 9223372036854775807 ∧ cut' = cut - 1)) :
    Calls Try.prog 22 #[.pointer (some ⟨f, 0, none⟩), .int .i64 n, .slice a 512 cp] w (PutIs f mb (m + 1) N true cut' dn (wr + 1) (setB hs n l) (upC c n l) (.int .i64 0) w) := by
  obtain ⟨b, o, rfl, _⟩ := hb.1.2.2.2.resolve_left (by omega)
  have hne := fl_map h hm
  have hl := bin_isB hb
  have H := Lib.hid (closed_any f mb N cut wr n true dn w h)
  have hE : clE true N n = 0 := by simp [clE, h0, h1]
  rw [hE] at H
  have HSP := Lib.hid (spend_any f mb N cut wr true dn w h cut' false (by rcases hc with ⟨q1, q2⟩ | ⟨q1, q2, q3⟩; exact .inl ⟨q1, q2, rfl⟩; exact .inr ⟨by omega, q2, q3, by simp; omega⟩))
  have HB := Lib.hid hb
  have HBF := Lib.hid (hbf _ rfl)
  have HM := Lib.hid hm
  have hat : ∀ w, (Instr.arrayAt 70 (.slice (some ⟨b, o, none⟩) 512 cp)).run Try.prog w = .ok (.pointer (some ⟨b, o, none⟩)) w := fun w => run_arrayAt w 70 _ 512 _ 512 cp Try.underlying70 (Nat.le_refl _)
  unfold TurnF at HSP
  unfold PutIs
  clear h hm hb hbf hE hc
  go_enter Try.func22, Try.ntmps22
  go_wp2_with (go_at_call 40; refine H.out.mono ?_; rintro e w' ⟨rfl, rfl⟩)
  refine HSP.out.mono ?_
  rintro e w1 ⟨rfl, hf1, hg1⟩
  have HF1 := Lib.hid hf1
  have HM1 := Lib.hid (HM.out.grown hg1 (fun e => hne (by injection e with e; exact e.symm)))
  have HB1 := Lib.hid (HB.out.1.1)
  have HRG := Lib.hid (bin_range (bin_fr HB.out (Fr.grown (F := fun j => j = f) hg1 (fun j e _ => by injection e with e; exact e.symm)) (fun q hq _ => by injection hq with hq; subst hq; exact HBF.out)))
  have HR1 := Lib.hid (Fr.grown (F := fun j => j = f ∨ j = mb) hg1 (fun j e _ => by injection e with e; exact .inl e.symm))
  have HP := Lib.hid (put_any f mb m N cut' wr n true dn hs c l w1 hf1 HM1.out ⟨by omega, by omega⟩ hl hmx hw0 hw1)
  unfold PutIs at HP
  clear hf1 hg1 HSP
  go_wp2_with (refine ldB rfl (.tmp 31) rfl b o rfl l hl HRG.out ?_)
  refine HP.out.mono ?_
  rintro e w2 ⟨rfl, hf2, hm2, hr2⟩
  have HR := Lib.hid (HR1.out.trans hr2 (fun j _ e => e))
  have HF2 := Lib.hid hf2
  have HM2 := Lib.hid hm2
  clear hf2 hm2 hr2 hat
  go_wp2_with fail
  go_ret
  exact ⟨rfl, HF2.out, HM2.out, HR.out⟩
set_option maxHeartbeats 1600000 in
theorem write_end (f mb m : Nat) (N wr n : Int) (hs : Int → Bool) (c : Int → List Nat) (a : Option Addr) (cp : Nat) (l : List Nat) (w : World) (h : FlB w f mb N true 1 true wr) (hm : MAt w mb m hs c) (h0 : 0 ≤ n) (h1 : n < N) (hN : N ≤ 1048576)
    (hb : BIn w a 512 cp l) (hbf : ∀ q, a = some q → q.block ≠ f) (hmx : m < maxLen) (hw0 : 0 ≤ wr) (hw1 : wr ≤ 4611686018427387904) :
    Calls Try.prog 22 #[.pointer (some ⟨f, 0, none⟩), .int .i64 n, .slice a 512 cp] w (PutIs f mb (m + 1) N false 0 true (wr + 1) (setB hs n l) (upC c n l) (.int .i64 143) w) := by
  obtain ⟨b, o, rfl, _⟩ := hb.1.2.2.2.resolve_left (by omega)
  have hne := fl_map h hm
  have hl := bin_isB hb
  have H := Lib.hid (closed_any f mb N 1 wr n true true w h)
  have hE : clE true N n = 0 := by simp [clE, h0, h1]
  rw [hE] at H
  have HSP := Lib.hid (spend_any f mb N 1 wr true true w h 0 true (.inr ⟨by omega, by omega, by omega, by simp⟩))
  have HB := Lib.hid hb
  have HBF := Lib.hid (hbf _ rfl)
  have HM := Lib.hid hm
  have hat : ∀ w, (Instr.arrayAt 70 (.slice (some ⟨b, o, none⟩) 512 cp)).run Try.prog w = .ok (.pointer (some ⟨b, o, none⟩)) w := fun w => run_arrayAt w 70 _ 512 _ 512 cp Try.underlying70 (Nat.le_refl _)
  unfold TurnF at HSP
  unfold PutIs
  clear h hm hb hbf hE
  go_enter Try.func22, Try.ntmps22
  go_wp2_with (go_at_call 40; refine H.out.mono ?_; rintro e w' ⟨rfl, rfl⟩)
  refine HSP.out.mono ?_
  rintro e w1 ⟨rfl, hf1, hg1⟩
  have HF1 := Lib.hid hf1
  have HM1 := Lib.hid (HM.out.grown hg1 (fun e => hne (by injection e with e; exact e.symm)))
  have HRG := Lib.hid (bin_range (bin_fr HB.out (Fr.grown (F := fun j => j = f) hg1 (fun j e _ => by injection e with e; exact e.symm)) (fun q hq _ => by injection hq with hq; subst hq; exact HBF.out)))
  have HR1 := Lib.hid (Fr.grown (F := fun j => j = f ∨ j = mb) hg1 (fun j e _ => by injection e with e; exact .inl e.symm))
  have HP := Lib.hid (put_any f mb m N 0 wr n true true hs c l w1 hf1 HM1.out ⟨by omega, by omega⟩ hl hmx hw0 hw1)
  have c4 := hf1.c4
  unfold PutIs at HP
  clear hf1 hg1 HSP
  go_wp2_with (refine ldB rfl (.tmp 31) rfl b o rfl l hl HRG.out ?_)
  refine HP.out.mono ?_
  rintro e w2 ⟨rfl, hf2, hm2, hr2⟩
  obtain ⟨w3, hw3⟩ : ∃ w3, w2.setCell ⟨f, 2, none⟩ (.bool false) = w3 := ⟨_, rfl⟩
  have hg3 : w2.grownBy w3 (some f) := by rw [← hw3]; exact grown_setCell w2 ⟨f, 2, none⟩ _
  have hf3 : FlB w3 f mb N false 0 true (wr + 1) := by rw [← hw3]; exact Blk.set hf2 2 (.bool false)
  have HR := Lib.hid ((HR1.out.trans hr2 (fun j _ e => e)).trans (Fr.grown (F := fun j => j = f ∨ j = mb) hg3 (fun j e _ => by injection e with e; exact .inl e.symm)) (fun j _ e => e))
  have HF3 := Lib.hid hf3
  have HM3 := Lib.hid (hm2.grown hg3 (fun e => hne (by injection e with e; exact e.symm)))
  have c2 := hf2.c2
  have f2 := hf2.fr 2
  have HW3 := Lib.hid hw3
  clear hf2 hm2 hr2 hat hf3 hg3 hw3 c4
  go_wp2_with fail
  try rw [HW3.out]
  go_ret
  exact ⟨rfl, HF3.out, HM3.out, HR.out⟩
set_option maxHeartbeats 1600000 in
theorem write_lost (f mb m : Nat) (N wr n : Int) (hs : Int → Bool) (c : Int → List Nat) (a : Option Addr) (cp : Nat) (w : World) (h : FlB w f mb N true 1 false wr) (hm : MAt w mb m hs c) (h0 : 0 ≤ n) (h1 : n < N) (hN : N ≤ 1048576) :
    Calls Try.prog 22 #[.pointer (some ⟨f, 0, none⟩), .int .i64 n, .slice a 512 cp] w (PutIs f mb m N false 0 false wr hs c (.int .i64 143) w) := by
  have hne := fl_map h hm
  have H := Lib.hid (closed_any f mb N 1 wr n true false w h)
  have hE : clE true N n = 0 := by simp [clE, h0, h1]
  rw [hE] at H
  have HSP := Lib.hid (spend_any f mb N 1 wr true false w h 0 true (.inr ⟨by omega, by omega, by omega, by simp⟩))
  have HM := Lib.hid hm
  unfold TurnF at HSP
  unfold PutIs
  clear h hm hE
  go_enter Try.func22, Try.ntmps22
  go_wp2_with (go_at_call 40; refine H.out.mono ?_; rintro e w' ⟨rfl, rfl⟩)
  refine HSP.out.mono ?_
  rintro e w2 ⟨rfl, hf2, hg2⟩
  have hm2 := HM.out.grown hg2 (fun e => hne (by injection e with e; exact e.symm))
  obtain ⟨w3, hw3⟩ : ∃ w3, w2.setCell ⟨f, 2, none⟩ (.bool false) = w3 := ⟨_, rfl⟩
  have hg3 : w2.grownBy w3 (some f) := by rw [← hw3]; exact grown_setCell w2 ⟨f, 2, none⟩ _
  have hf3 : FlB w3 f mb N false 0 false wr := by rw [← hw3]; exact Blk.set hf2 2 (.bool false)
  have HR := Lib.hid ((Fr.grown (F := fun j => j = f ∨ j = mb) hg2 (fun j e _ => by injection e with e; exact .inl e.symm)).trans (Fr.grown (F := fun j => j = f ∨ j = mb) hg3 (fun j e _ => by injection e with e; exact .inl e.symm)) (fun j _ e => e))
  have HF3 := Lib.hid hf3
  have HM3 := Lib.hid (hm2.grown hg3 (fun e => hne (by injection e with e; exact e.symm)))
  have c2 := hf2.c2
  have c4 := hf2.c4
  have f2 := hf2.fr 2
  have HW3 := Lib.hid hw3
  clear hf2 hm2 hg2 hf3 hg3 hw3 HSP
  go_wp2_with fail
  try rw [HW3.out]
  go_ret
  exact ⟨rfl, HF3.out, HM3.out, HR.out⟩
end Go.Proofs.Ytlgpaglkhgomiaa
