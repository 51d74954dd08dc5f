/- The document's hash in memory: a new one, how many bytes, bytes taken in. Condition: the lists may grow so far. -/
import Derived.Test.YtnikhnpigopihaaDoorRefG
namespace Go.Proofs.YtnikhnpigopihaaDoor
open Go.RowKit
set_option linter.unusedVariables false
/-- the document's hash's cells: kind, where it began, behind how many bytes, all bytes since -/
def rhV (k : Nat) (s : List Nat) (n : Nat) (v : Value) : List Value := .int .i64 (k : Nat) :: (natsV .u64 s ++ [.int .u64 (n : Nat), v])
theorem built69 (k : Int) (a b c d e f g h : Int) : Tryd.prog.built 69 [(0, .int .i64 k), (1, .agg #[.int .u64 a, .int .u64 b, .int .u64 c, .int .u64 d, .int .u64 e, .int .u64 f, .int .u64 g, .int .u64 h])] =
    some (Value.int .i64 k :: ([Value.int .u64 a, Value.int .u64 b, Value.int .u64 c, Value.int .u64 d, Value.int .u64 e, Value.int .u64 f, Value.int .u64 g, Value.int .u64 h] ++ [.int .u64 0, .slice none 0 0])).toArray := by kernel_rfl
theorem built69' (k : Nat) (s : List Nat) (hs : s.length = 8) : Tryd.prog.built 69 [(0, .int .i64 (k : Nat)), (1, .agg (natsV .u64 s).toArray)] = some (rhV k s 0 (.slice none 0 0)).toArray := by
  obtain ⟨a, b, c, d, e, f, g, h, rfl⟩ := list8 hs
  exact built69 k a b c d e f g h
theorem rh_kind {w : World} {g k n : Nat} {s : List Nat} {v : Value} (h : Blk w g 69 (rhV k s n v)) : w.cell? ⟨g, 0, none⟩ = some (.int .i64 (k : Nat)) := by rw [h.cell]; rfl
theorem rh_tail {w : World} {g k n : Nat} {s : List Nat} {v : Value} (h : Blk w g 69 (rhV k s n v)) (hs : s.length = 8) (i : Nat) : w.cell? ⟨g, 9 + i, none⟩ = ([.int .u64 (n : Nat), v] : List Value)[i]? := by
  rw [h.cell, show 9 + i = (8 + i) + 1 by omega]
  show (natsV .u64 s ++ _)[8 + i]? = _
  rw [List.getElem?_append_right (by rw [natsV_length, hs]; omega), natsV_length, hs, Nat.add_sub_cancel_left]
theorem rh_n {w : World} {g k n : Nat} {s : List Nat} {v : Value} (h : Blk w g 69 (rhV k s n v)) (hs : s.length = 8) : w.cell? ⟨g, 9, none⟩ = some (.int .u64 (n : Nat)) := rh_tail h hs 0
theorem rh_l {w : World} {g k n : Nat} {s : List Nat} {v : Value} (h : Blk w g 69 (rhV k s n v)) (hs : s.length = 8) : w.cell? ⟨g, 10, none⟩ = some v := rh_tail h hs 1
theorem rh_word {w : World} {g k n : Nat} {s : List Nat} {v : Value} (h : Blk w g 69 (rhV k s n v)) (i : Nat) (hi : i < s.length) : w.cell? ⟨g, 1 + i, none⟩ = some (.int .u64 (s.getD i 0 : Nat)) := by
  rw [h.cell, Nat.add_comm, ← natsV_get .u64 s i hi]
  show (natsV .u64 s ++ _)[i]? = _
  rw [List.getElem?_append_left (by rw [natsV_length]; exact hi)]
theorem rh_setL {w : World} {g k n : Nat} {s : List Nat} {v : Value} (h : Blk w g 69 (rhV k s n v)) (hs : s.length = 8) (u : Value) : Blk (w.setCell ⟨g, 10, none⟩ u) g 69 (rhV k s n u) := by
  have h1 := h.set 10 u
  have e : (rhV k s n v).set 10 u = rhV k s n u := by
    unfold rhV
    rw [show 10 = 9 + 1 from rfl, List.set_cons_succ, List.set_append_right _ _ (by rw [natsV_length, hs]; omega), natsV_length, hs]
    rfl
  rw [e] at h1; exact h1
/-- the document's hash at block g: its own list lies from 'base' on -/
def RefAt (w : World) (g base k : Nat) (s : List Nat) (n : Nat) (L : List Nat) : Prop := IsKind k ∧ s.length = 8 ∧ (∀ x ∈ s, x < 2 ^ wW k) ∧ (∀ x ∈ L, x < 256) ∧ g < base ∧ base ≤ w.heap.size ∧ ∃ v, Blk w g 69 (rhV k s n v) ∧ w.ownsRow base 5 1 v L.length (bytesV L)
theorem RefAt.below {w w' : World} {g base k n : Nat} {s L : List Nat} (h : RefAt w g base k s n L) (hb : Below w.heap.size w w') : RefAt w' g base k s n L := by
  obtain ⟨h1, h2, h3, h4, h5, h6, v, h7, h8⟩ := h
  exact ⟨h1, h2, h3, h4, h5, Nat.le_trans h6 hb.size, v, h7.below' hb, own_below h8 hb⟩
/-- what a call answers that makes the document's hash -/
def RefNew (k : Nat) (w : World) (e : Ending) (w' : World) : Prop := ∃ g, e = .returned (.tuple #[.pointer (some ⟨g, 0, none⟩), .bool true]) ∧ w.heap.size ≤ g ∧ RefAt w' g (g + 1) k (firstN k) 0 [] ∧ Below w.heap.size w w'

set_option maxRecDepth 100000 in
set_option maxHeartbeats 800000 in
theorem refNew_1 (w : World) : Calls Tryd.prog 19 #[.int .i64 256] w (RefNew 1 w) := by
  have HF := Lib.hid (fun w => first36_1 w)
  have HB := Lib.hid (show Tryd.prog.built 69 [(0, .int .i64 1), (1, .agg (natsV .u64 (firstN 1)).toArray)] = some (rhV 1 (firstN 1) 0 (.slice none 0 0)).toArray from built69' 1 (firstN 1) (firstN_length 1))
  have HL := Lib.hid (firstN_length 1)
  have HX := Lib.hid (firstN_lt 1)
  unfold RefNew
  generalize firstN 1 = s at *
  go_enter Tryd.func19, Tryd.ntmps19
  go_wp2_with fail
  refine (HF.out _).mono ?_
  rintro e w1 ⟨rfl, hb⟩
  clear HF
  go_wp2_with (refine wpList_build_is rfl 69 _ rfl (rhV 1 s 0 (.slice none 0 0)).toArray ?hb ?_)
  case hb => exact HB.out
  clear HB
  go_ret2
  exact ⟨w1.heap.size, rfl, hb.size, ⟨.inl rfl, HL.out, HX.out, by simp, Nat.lt_succ_self _, by simp, .slice none 0 0, Blk.new w1 69 (rhV 1 s 0 (.slice none 0 0)), World.ownsRow_nil _ _ _ _⟩, hb.alloc hb.size _⟩

set_option maxRecDepth 100000 in
set_option maxHeartbeats 800000 in
theorem refNew_2 (w : World) : Calls Tryd.prog 19 #[.int .i64 384] w (RefNew 2 w) := by
  have HF := Lib.hid (fun w => first36_2 w)
  have HB := Lib.hid (show Tryd.prog.built 69 [(0, .int .i64 2), (1, .agg (natsV .u64 (firstN 2)).toArray)] = some (rhV 2 (firstN 2) 0 (.slice none 0 0)).toArray from built69' 2 (firstN 2) (firstN_length 2))
  have HL := Lib.hid (firstN_length 2)
  have HX := Lib.hid (firstN_lt 2)
  unfold RefNew
  generalize firstN 2 = s at *
  go_enter Tryd.func19, Tryd.ntmps19
  go_wp2_with fail
  refine (HF.out _).mono ?_
  rintro e w1 ⟨rfl, hb⟩
  clear HF
  go_wp2_with (refine wpList_build_is rfl 69 _ rfl (rhV 2 s 0 (.slice none 0 0)).toArray ?hb ?_)
  case hb => exact HB.out
  clear HB
  go_ret2
  exact ⟨w1.heap.size, rfl, hb.size, ⟨.inr (.inl rfl), HL.out, HX.out, by simp, Nat.lt_succ_self _, by simp, .slice none 0 0, Blk.new w1 69 (rhV 2 s 0 (.slice none 0 0)), World.ownsRow_nil _ _ _ _⟩, hb.alloc hb.size _⟩

set_option maxRecDepth 100000 in
set_option maxHeartbeats 800000 in
theorem refNew_3 (w : World) : Calls Tryd.prog 19 #[.int .i64 512] w (RefNew 3 w) := by
  have HF := Lib.hid (fun w => first36_3 w)
  have HB := Lib.hid (show Tryd.prog.built 69 [(0, .int .i64 3), (1, .agg (natsV .u64 (firstN 3)).toArray)] = some (rhV 3 (firstN 3) 0 (.slice none 0 0)).toArray from built69' 3 (firstN 3) (firstN_length 3))
  have HL := Lib.hid (firstN_length 3)
  have HX := Lib.hid (firstN_lt 3)
  unfold RefNew
  generalize firstN 3 = s at *
  go_enter Tryd.func19, Tryd.ntmps19
  go_wp2_with fail
  refine (HF.out _).mono ?_
  rintro e w1 ⟨rfl, hb⟩
  clear HF
  go_wp2_with (refine wpList_build_is rfl 69 _ rfl (rhV 3 s 0 (.slice none 0 0)).toArray ?hb ?_)
  case hb => exact HB.out
  clear HB
  go_ret2
  exact ⟨w1.heap.size, rfl, hb.size, ⟨.inr (.inr rfl), HL.out, HX.out, by simp, Nat.lt_succ_self _, by simp, .slice none 0 0, Blk.new w1 69 (rhV 3 s 0 (.slice none 0 0)), World.ownsRow_nil _ _ _ _⟩, hb.alloc hb.size _⟩

set_option maxHeartbeats 800000 in
theorem refLen_any (g base k n : Nat) (s L : List Nat) (w : World) (h : RefAt w g base k s n L) (hn : n + L.length < 2 ^ 64) (h47 : L.length ≤ 140737488355328) :
    Calls Tryd.prog 22 #[.pointer (some ⟨g, 0, none⟩)] w fun e w' => e = .returned (.int .u64 (n + L.length : Nat)) ∧ ∃ q, w' = w.drewN q := by
  obtain ⟨_, hs, _, hL, _, _, v, hb, ho⟩ := h
  obtain ⟨a, c, rfl, _, _⟩ := own_in ho hL h47
  have h9 := rh_n hb hs
  have h10 := rh_l hb hs
  have e1 : IntKind.u64.wrap (L.length : Int) = (L.length : Int) := u64_cast _ (by omega)
  have e2 : IntKind.u64.wrap ((n : Int) + (L.length : Int)) = ((n + L.length : Nat) : Int) := by rw [← Int.natCast_add]; exact u64_cast _ hn
  clear hb ho hL
  generalize L.length = m at *
  generalize n + m = nm at *
  go_enter Tryd.func22, Tryd.ntmps22
  go_wp2_with fail
  go_quiet (fail)
  go_wp2_with fail
  go_ret
  exact ⟨rfl, _, rfl⟩
/-- what 'Write' answers where the bytes fit -/
def RefWr (g base k n : Nat) (s L : List Nat) (w : World) (e : Ending) (w' : World) : Prop := e = .returned (.bool true) ∧ RefAt w' g base k s n L ∧ Below g w w'
set_option maxHeartbeats 1600000 in
theorem refWrite_fits (g base k n : Nat) (s L : List Nat) (A : Option Addr) (m c : Nat) (l : List Nat) (w : World) (h : RefAt w g base k s n L) (hb : BIn w A m c l) (hfit : m ≤ 2305843009213693951 - (n + L.length)) (hn : n + L.length ≤ 2305843009213693951) (h47 : L.length + m ≤ 140737488355328) :
    Calls Tryd.prog 28 #[.pointer (some ⟨g, 0, none⟩), .slice A m c] w (RefWr g base k n s (L ++ l) w) := by
  have HLEN := Lib.hid (refLen_any g base k n s L w h (by omega) (by omega))
  obtain ⟨hk, hs, hx, hL, hgb, hbw, v, hblk, ho⟩ := h
  have HB := Lib.hid hb
  have HLN := Lib.hid hb.1.1
  have hc2 := hb.2.2.1
  have hc1 := hb.2.1
  unfold maxLen at hc2
  have HBLK := Lib.hid hblk
  have HO := Lib.hid ho
  have HS := Lib.hid hs
  have HK := Lib.hid hk
  have HX := Lib.hid hx
  have HL := Lib.hid (show ∀ x ∈ L ++ l, x < 256 from fun x hx => (List.mem_append.1 hx).elim (hL x) (hb.1.2.2.1 x))
  have h10 := rh_l hblk hs
  have e1 : IntKind.u64.wrap (m : Int) = (m : Int) := u64_cast _ (by omega)
  have e2 : IntKind.u64.wrap ((2305843009213693951 : Int) - ((n + L.length : Nat) : Int)) = ((2305843009213693951 - (n + L.length) : Nat) : Int) := by
    rw [show (2305843009213693951 : Int) - ((n + L.length : Nat) : Int) = ((2305843009213693951 - (n + L.length) : Nat) : Int) from by omega]; exact u64_cast _ (by omega)
  have e2' : (2305843009213693951 : Int) - ((n + L.length : Nat) : Int) = ((2305843009213693951 - (n + L.length) : Nat) : Int) := by omega
  have hcmp : decide (((2305843009213693951 - (n + L.length) : Nat) : Int) < (m : Int)) = false := by simp; omega
  have hlt := hblk.lt
  clear hb hs hk hx hL ho hblk
  generalize 2305843009213693951 - (n + L.length) = room at *
  generalize n + L.length = nm at *
  go_enter Tryd.func28, Tryd.ntmps28
  go_wp2_with fail
  refine HLEN.out.mono ?_
  rintro e w' ⟨rfl, q, rfl⟩
  have HO2 := Lib.hid (show (w.drewN q).ownsRow base 5 1 v L.length (bytesV L) from HO.out)
  have HB2 := Lib.hid (HB.out.below (below_drewN (Below.refl w.heap.size w) q))
  go_wp2_with (at_builtin; refine wpList_append_bytes _ rfl _ _ rfl base v L.length L rfl HO2.out A m c l rfl HB2.out ?c1 ?c2 ?_)
  case c1 => omega
  case c2 => exact hbw
  intro v2 w2 h1 h2
  obtain ⟨a2, cp2, rfl, _, _⟩ := own_in h1 HL.out (by omega)
  have hg2 : w2.heap.size ≥ w.heap.size := h2.size
  have hne : v.ownBlock = none ∨ some g ≠ v.ownBlock := by
    cases hv : v.ownBlock with
    | none => exact .inl rfl
    | some G => exact .inr (fun e => by injection e with e; have := (HO.out.lt G hv).1; omega)
  have hblk2 : Blk w2 g 69 (rhV k s n v) := by
    refine (HBLK.out.drewN q).of (h2.block g (by simpa using hlt) ?_)
    rcases hne with hv | hv
    · rw [hv]; simp
    · exact hv
  have hbel2 : Below g w w2 := by
    refine ⟨h2.os, h2.tape, h2.output, h2.size, fun j hj => h2.block j (by simp; omega) (fun e => ?_)⟩
    have := (HO.out.lt j e.symm).1
    omega
  have hf := hblk2.free 10
  have hc10 := rh_l hblk2 HS.out
  have HB3 := Lib.hid (rh_setL hblk2 HS.out (.slice a2 (L.length + m) cp2))
  have hne2 : (Value.slice a2 (L.length + m) cp2).ownBlock = none ∨ (Value.slice a2 (L.length + m) cp2).ownBlock ≠ some g := by
    cases hv : (Value.slice a2 (L.length + m) cp2).ownBlock with
    | none => exact .inl rfl
    | some G => exact .inr (fun e => by injection e with e; have := (h1.lt G hv).1; omega)
  have HO3 := Lib.hid (h1.kept (grown_setCell w2 ⟨g, 10, none⟩ (.slice a2 (L.length + m) cp2)) hne2)
  have HBEL := Lib.hid (hbel2.setCell (p := ⟨g, 10, none⟩) (Nat.le_refl _) (.slice a2 (L.length + m) cp2))
  clear h1 h2 hblk2 hbel2 h10
  go_wp2_with fail
  go_ret
  refine ⟨rfl, ⟨HK.out, HS.out, HX.out, HL.out, hgb, by simp; omega, _, HB3.out, ?_⟩, HBEL.out⟩
  rw [List.length_append, HLN.out]; exact HO3.out
end Go.Proofs.YtnikhnpigopihaaDoor
