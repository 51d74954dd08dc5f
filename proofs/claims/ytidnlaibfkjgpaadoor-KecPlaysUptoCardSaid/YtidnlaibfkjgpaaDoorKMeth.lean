/- The project's New, Write, Read on a sponge that lies there. Condition: the table of constants. -/
import Derived.Test.YtidnlaibfkjgpaaDoorKNil
import Derived.Test.YtidnlaibfkjgpaaDoorKTop
namespace Go.Proofs.YtidnlaibfkjgpaaDoor
open Go.RowKit
set_option linter.unusedVariables false
/-- a new sponge, with OK -/
def NewSp (k : Nat) (w : World) (e : Ending) (w' : World) : Prop := ∃ g, e = .returned (.tuple #[.pointer (some ⟨g, 0, none⟩), .int .i64 0]) ∧ w.heap.size ≤ g ∧ SpAt w' g k 0 false (sizeK k) (zeros 25) ∧ Below w.heap.size w w'
set_option maxHeartbeats 1600000 in
theorem new_any (k : Nat) (hk : IsKind k) (w : World) (htab : Tabs w) : Calls Tryd.prog 22 #[.int .i64 (k : Nat)] w (NewSp k w) := by
  have HB := Lib.hid (begin_any k hk w htab)
  have k1 : ¬ (k : Int) < 1 := by unfold IsKind at hk; omega
  have k2 : ¬ (5 : Int) < (k : Int) := by unfold IsKind at hk; omega
  clear htab hk
  go_enter Tryd.func22, Tryd.ntmps22
  go_wp2_with fail
  refine HB.out.mono ?_
  rintro e w1 ⟨g, rfl, hg, hsp, hb⟩
  go_wp2_with fail
  go_ret2
  exact ⟨g, rfl, hg, hsp, hb⟩
set_option maxHeartbeats 1600000 in
theorem new_bad (k : Int) (hk : k < 1 ∨ 5 < k) (w : World) : Calls Tryd.prog 22 #[.int .i64 k] w fun e w' => e = .returned (.tuple #[.pointer none, .int .i64 31]) ∧ w = w' := by
  rcases hk with h | h
  · go_enter Tryd.func22, Tryd.ntmps22
    go_wp2_with fail
    go_ret2
    exact ⟨rfl, rfl⟩
  · have h1 : ¬ k < 1 := by omega
    go_enter Tryd.func22, Tryd.ntmps22
    go_wp2_with fail
    go_ret2
    exact ⟨rfl, rfl⟩
/-- bytes taken in, with OK -/
def WroteIs (g k : Nat) (lf : Int) (p : List Nat × Nat) (w : World) (e : Ending) (w' : World) : Prop := e = .returned (.int .i64 0) ∧ SpAt w' g k p.2 false lf p.1 ∧ w.grownBy w' (some g)
set_option maxHeartbeats 1600000 in
theorem write_any (g k a : Nat) (lf : Int) (s : List Nat) (A : Option Addr) (n c : Nat) (l : List Nat) (w : World) (h : SpAt w g k a false lf s) (hb : BIn w A n c l) (hne : ∀ b, A = some b → 0 < n → b.block ≠ g) (htab : Tabs w) :
    Calls Tryd.prog 23 #[.pointer (some ⟨g, 0, none⟩), .slice A n c] w (WroteIs g k lf (absL (rateK k) (s, a) l) w) := by
  have HT := Lib.hid (take_any g k a false lf s A n c l w h hb hne htab)
  have hgv := sp_gv h.2.2.2.2 h.2.1.1
  clear h hb hne htab
  go_enter Tryd.func23, Tryd.ntmps23
  go_wp2_with fail
  refine HT.out.mono ?_
  rintro e w1 ⟨rfl, hsp, hg⟩
  go_wp2_with fail
  go_ret
  exact ⟨rfl, hsp, hg⟩
set_option maxHeartbeats 1600000 in
theorem write_late (g k a : Nat) (lf : Int) (s : List Nat) (v : Value) (w : World) (h : SpAt w g k a true lf s) :
    Calls Tryd.prog 23 #[.pointer (some ⟨g, 0, none⟩), v] w fun e w' => e = .returned (.int .i64 32) ∧ w = w' := by
  have hgv := sp_gv h.2.2.2.2 h.2.1.1
  clear h
  go_enter Tryd.func23, Tryd.ntmps23
  go_wp2_with fail
  go_ret
  exact ⟨rfl, rfl⟩
/-- bytes given out, with OK -/
def ReadSp (g k n : Nat) (lf : Int) (p : List Nat × Nat) (w : World) (e : Ending) (w' : World) : Prop := ∃ G, e = .returned (.tuple #[.slice (some ⟨G, 0, none⟩) n n, .int .i64 0]) ∧ w.heap.size ≤ G ∧ Blk w' G 5 (natsV .u8 (sqB (rateK k) p n)) ∧ SpAt w' g k (sqS (rateK k) p n).2 true (leftN lf n) (sqS (rateK k) p n).1 ∧ w.grownBy w' (some g)
theorem SpAt.drewN' {w : World} {g k a : Nat} {gv : Bool} {lf : Int} {s : List Nat} (h : SpAt w g k a gv lf s) (q : Nat) : SpAt (w.drewN q) g k a gv lf s := h
set_option maxHeartbeats 1600000 in
theorem readSp_any (g k a n : Nat) (gv : Bool) (lf : Int) (s : List Nat) (w : World) (h : SpAt w g k a gv lf s) (hn : n ≤ 65536) (hlf : lf = -1 ∨ (n : Int) ≤ lf ∧ lf ≤ 64) (htab : Tabs w) (p0 : List Nat × Nat) (hp0 : (if gv then (s, a) else (endN k (s, a), 0)) = p0) :
    Calls Tryd.prog 24 #[.pointer (some ⟨g, 0, none⟩), .int .i64 (n : Nat)] w (ReadSp g k n lf p0 w) := by
  have HC := Lib.hid (fun w => canAsk_any (n : Nat) ⟨by omega, by omega⟩ w)
  have hd : (decide ((0 : Int) ≤ (n : Nat)) && decide (((n : Nat) : Int) ≤ 65536)) = true := by rw [decide_eq_true (by omega), decide_eq_true (by omega)]; rfl
  rw [hd] at HC
  have HG := Lib.hid (fun q => show Calls Tryd.prog 36 #[.pointer (some ⟨g, 0, none⟩), .int .i64 (n : Nat)] (w.drewN q) (GiveIs g k n lf p0 (w.drewN q)) from by
    cases gv
    · exact give_new g k a n lf s _ (h.drewN' q) hn hlf (htab.below (below_drewN (Below.refl w.heap.size w) q)) p0 (by simpa using hp0)
    · exact give_on g k a n lf s _ (h.drewN' q) hn hlf (htab.below (below_drewN (Below.refl w.heap.size w) q)) p0 (by simpa using hp0))
  have hl := sp_lf h.2.2.2.2 h.2.1.1
  clear hd htab h hp0
  rcases hlf with rfl | ⟨hlf1, hlf2⟩
  · go_enter Tryd.func24, Tryd.ntmps24
    go_wp2_with fail
    refine (HC.out _).mono ?_
    rintro e w' ⟨rfl, q, rfl⟩
    go_wp2_with fail
    refine (HG.out q).mono ?_
    rintro e w1 ⟨G, rfl, hG, hb, hsp, hg⟩
    go_wp2_with fail
    go_ret2
    exact ⟨G, rfl, hG, hb, hsp, ⟨hg.os, hg.tape, hg.output, hg.size, hg.block⟩⟩
  · have hlb : (lf != -1) = true := by rw [bne_iff_ne]; omega
    have hln : ¬ lf < (n : Int) := by omega
    go_enter Tryd.func24, Tryd.ntmps24
    go_wp2_with fail
    refine (HC.out _).mono ?_
    rintro e w' ⟨rfl, q, rfl⟩
    go_wp2_with fail
    refine (HG.out q).mono ?_
    rintro e w1 ⟨G, rfl, hG, hb, hsp, hg⟩
    go_wp2_with fail
    go_ret2
    exact ⟨G, rfl, hG, hb, hsp, ⟨hg.os, hg.tape, hg.output, hg.size, hg.block⟩⟩
end Go.Proofs.YtidnlaibfkjgpaaDoor
