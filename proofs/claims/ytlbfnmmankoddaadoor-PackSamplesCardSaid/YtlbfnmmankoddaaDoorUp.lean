/- Up and Down of the project answer as told by plain lists. Condition: the coefficients are 32-bit numbers. -/
import Derived.Test.YtlbfnmmankoddaaDoorLa
namespace Go.Proofs.YtlbfnmmankoddaaDoor
open Go.RowKit
set_option linter.unusedVariables false
set_option linter.unusedSimpArgs false
theorem wrap32_id {x : Int} (h1 : -2147483648 ≤ x) (h2 : x ≤ 2147483647) : wrap32 x = x := by unfold wrap32; omega
theorem own_mono {w : World} {B B' e size n : Nat} {v : Value} {xs : List Value} (h : w.ownsRow B' e size v n xs) (hb : B ≤ B') : w.ownsRow B e size v n xs := by
  refine ⟨h.1, ?_⟩
  rcases h.2 with h2 | ⟨g, cap, cur, rfl, hbg, hg, rest⟩
  · exact .inl h2
  · exact .inr ⟨g, cap, cur, rfl, Nat.le_trans hb hbg, hg, rest⟩
theorem own_slice {w : World} {B e size n : Nat} {v : Value} {xs : List Value} (h : w.ownsRow B e size v n xs) : ∃ A c, v = .slice A n c := by
  rcases h.2 with ⟨rfl, rfl⟩ | ⟨g, cap, cur, rfl, hbg, hg, rest⟩
  · exact ⟨none, 0, rfl⟩
  · exact ⟨_, cap, rfl⟩
/-- what a call answers that makes bytes or refuses -/
def PkIs (er : Nat) (L : List Nat) (w : World) (e : Ending) (w' : World) : Prop := ∃ v, e = .returned (.tuple #[v, .int .i64 (er : Nat)]) ∧ w'.ownsRow w.heap.size 5 1 v L.length (bytesV L) ∧ Below w.heap.size w w'
theorem own_nil (w w0 : World) : w.ownsRow w0.heap.size 5 1 (.slice none 0 0) ([] : List Nat).length (bytesV []) := ⟨rfl, .inl ⟨rfl, rfl⟩⟩
def upE (l : List Int) (bits : Int) : Nat := if 1 ≤ bits ∧ bits ≤ 23 then (if pln l = true ∧ inB bits.toNat l = true then 0 else 92) else 1
def upL (l : List Int) (bits : Int) : List Nat := if (1 ≤ bits ∧ bits ≤ 23) ∧ pln l = true ∧ inB bits.toNat l = true then layN bits.toNat (natL l) else []
theorem up_arg {l : List Int} {bits : Int} (h : ¬ (1 ≤ bits ∧ bits ≤ 23)) : upE l bits = 1 ∧ upL l bits = [] := ⟨if_neg h, if_neg fun k => h k.1⟩
theorem up_no {l : List Int} {bits : Int} (h : 1 ≤ bits ∧ bits ≤ 23) (h2 : ¬ (pln l = true ∧ inB bits.toNat l = true)) : upE l bits = 92 ∧ upL l bits = [] := ⟨by unfold upE; rw [if_pos h, if_neg h2], if_neg fun k => h2 k.2⟩
theorem up_yes {l : List Int} {bits : Int} (h : 1 ≤ bits ∧ bits ≤ 23) (h2 : pln l = true ∧ inB bits.toNat l = true) : upE l bits = 0 ∧ upL l bits = layN bits.toNat (natL l) := ⟨by unfold upE; rw [if_pos h, if_pos h2], if_pos ⟨h, h2⟩⟩
set_option maxRecDepth 100000 in
set_option maxHeartbeats 1600000 in
theorem Up_arg (l : List Int) (bits : Int) (h : ¬ (1 ≤ bits ∧ bits ≤ 23)) (w : World) : Calls Tryd.prog 11 #[.agg (iv l).toArray, .int .i64 bits] w (PkIs 1 [] w) := by
  have BEL := Lib.hid ((Below.refl w.heap.size w).alloc (Nat.le_refl _) (.cells (iv l).toArray 25))
  by_cases h1 : bits < 1
  · clear h
    go_enter Tryd.func11, Tryd.ntmps11
    go_wp2_with fail
    go_ret2
    exact ⟨_, rfl, own_nil _ _, BEL.out⟩
  · have h2 : 23 < bits := by omega
    clear h
    go_enter Tryd.func11, Tryd.ntmps11
    go_wp2_with fail
    go_ret2
    exact ⟨_, rfl, own_nil _ _, BEL.out⟩
theorem made_pk {L : List Nat} {W w0 : World} {e : Ending} {w' : World} (hb : Below w0.heap.size w0 W) (h : Made L W e w') : ∃ v, e = .returned v ∧ w'.ownsRow w0.heap.size 5 1 v L.length (bytesV L) ∧ Below w0.heap.size w0 w' := by
  obtain ⟨v, he, ho, hb2⟩ := h
  exact ⟨v, he, own_mono ho hb.size, hb.trans (hb2.mono hb.size)⟩
set_option maxRecDepth 100000 in
set_option maxHeartbeats 1600000 in
theorem Up_in (l : List Int) (hl : IsP l) (s : Nat) (hs1 : 1 ≤ s) (hs2 : s ≤ 23) (w : World) : Calls Tryd.prog 11 #[.agg (iv l).toArray, .int .i64 (s : Nat)] w (PkIs (if pln l = true ∧ inB s l = true then 0 else 92) (if pln l = true ∧ inB s l = true then layN s (natL l) else []) w) := by
  have HP := Lib.hid (fun w => isPlain_any l hl w)
  have HI := Lib.hid (fun w => inBits_any l hl s hs1 hs2 w)
  have HL := Lib.hid (fun h w => laid_any l hl s hs1 hs2 h w)
  have LL := Lib.hid hl.1
  have B1 := Lib.hid (Blk.new w 25 (iv l))
  have BEL := Lib.hid ((Below.refl w.heap.size w).alloc (Nat.le_refl _) (.cells (iv l).toArray 25))
  clear hl
  generalize layN s (natL l) = L at *
  cases hp : pln l with
  | false =>
    rw [hp] at HP
    rw [if_neg (by simp), if_neg (by simp)]
    clear hp
    go_enter Tryd.func11, Tryd.ntmps11
    go_wp2_with (first | (refine wpList_load_row rfl 25 (.tmp 2) rfl w.heap.size rfl 25 (iv l).toArray (0, 0) _ B1.out Tryd.underlying25 rfl (j23 LL.out) ?_))
    refine (HP.out _).mono ?_
    rintro e w1 ⟨rfl, hb1⟩
    have hbel := BEL.out.trans (hb1.mono BEL.out.size)
    go_wp2_with fail
    go_ret2
    exact ⟨_, rfl, own_nil _ _, hbel⟩
  | true =>
    rw [hp] at HP
    cases hi : inB s l with
    | false =>
      rw [hi] at HI
      rw [if_neg (by simp), if_neg (by simp)]
      clear hp hi
      go_enter Tryd.func11, Tryd.ntmps11
      go_wp2_with (first | (refine wpList_load_row rfl 25 (.tmp 2) rfl w.heap.size rfl 25 (iv l).toArray (0, 0) _ B1.out Tryd.underlying25 rfl (j23 LL.out) ?_))
      refine (HP.out _).mono ?_
      rintro e w1 ⟨rfl, hb1⟩
      have hbel := BEL.out.trans (hb1.mono BEL.out.size)
      have B2 := Lib.hid (B1.out.below' hb1)
      go_wp2_with (refine ldwM 25 (.tmp 2) rfl w.heap.size 0 rfl (iv l) _ (blk_all B2.out) Tryd.underlying25 rfl (i23 LL.out) 3 false rfl 15 rfl rfl ?_)
      refine (HI.out _).mono ?_
      rintro e w2 ⟨rfl, hb2⟩
      have hbel2 := hbel.trans (hb2.mono hbel.size)
      go_wp2_with fail
      go_ret2
      exact ⟨_, rfl, own_nil _ _, hbel2⟩
    | true =>
      rw [hi] at HI
      have HL2 := Lib.hid (HL.out hi)
      rw [if_pos ⟨rfl, rfl⟩, if_pos ⟨rfl, rfl⟩]
      clear hp hi HL
      go_enter Tryd.func11, Tryd.ntmps11
      go_wp2_with (first | (refine wpList_load_row rfl 25 (.tmp 2) rfl w.heap.size rfl 25 (iv l).toArray (0, 0) _ B1.out Tryd.underlying25 rfl (j23 LL.out) ?_))
      refine (HP.out _).mono ?_
      rintro e w1 ⟨rfl, hb1⟩
      have hbel := BEL.out.trans (hb1.mono BEL.out.size)
      have B2 := Lib.hid (B1.out.below' hb1)
      go_wp2_with (refine ldwM 25 (.tmp 2) rfl w.heap.size 0 rfl (iv l) _ (blk_all B2.out) Tryd.underlying25 rfl (i23 LL.out) 3 false rfl 15 rfl rfl ?_)
      refine (HI.out _).mono ?_
      rintro e w2 ⟨rfl, hb2⟩
      have hbel2 := hbel.trans (hb2.mono hbel.size)
      have B3 := Lib.hid (B2.out.below' hb2)
      go_wp2_with (first | (refine wpList_load_row rfl 25 (.tmp 2) rfl w.heap.size rfl 25 (iv l).toArray (0, 0) _ B3.out Tryd.underlying25 rfl (j23 LL.out) ?_))
      refine (HL2.out _).mono ?_
      intro e w3 hm
      obtain ⟨v, rfl, ho, hbel3⟩ := made_pk hbel2 hm
      have HO := Lib.hid ho
      clear ho hm
      obtain ⟨A, c, rfl⟩ := own_slice HO.out
      go_wp2_with fail
      go_ret2
      exact ⟨_, rfl, HO.out, hbel3⟩
theorem Up_any (l : List Int) (hl : IsP l) (bits : Int) (w : World) : Calls Tryd.prog 11 #[.agg (iv l).toArray, .int .i64 bits] w (PkIs (upE l bits) (upL l bits) w) := by
  by_cases h : 1 ≤ bits ∧ bits ≤ 23
  · obtain ⟨s, rfl⟩ : ∃ s : Nat, bits = s := ⟨bits.toNat, by omega⟩
    have := Up_in l hl s (by omega) (by omega) w
    unfold upE upL
    rw [if_pos h]
    simp only [h, true_and, Int.toNat_natCast]
    exact this
  · obtain ⟨e1, e2⟩ := up_arg (l := l) h
    rw [e1, e2]
    exact Up_arg l bits h w
end Go.Proofs.YtlbfnmmankoddaaDoor
