/- Slices of polynomials that are built. No condition. -/
import Derived.Test.YtbhhpopckchibaaG0
namespace Go.Proofs.Ytbhhpopckchibaa
open Go.RowKit
set_option linter.unusedVariables false
set_option linter.unusedSimpArgs false
theorem fold_set (off : Nat) : ∀ (vs : List Value) (k : Nat) (A : List Value), off + k + vs.length ≤ A.length →
    ((vs.zipIdx k).foldl (fun (cs : Array Value) (x : Value × Nat) => cs.setIfInBounds (off + x.2) x.1) A.toArray) = (A.take (off + k) ++ (vs ++ A.drop (off + k + vs.length))).toArray
  | [], k, A, h => by simp
  | v :: vs, k, A, h => by
    simp only [List.zipIdx_cons, List.foldl_cons, List.setIfInBounds_toArray]
    simp only [List.length_cons] at h
    rw [fold_set off vs (k + 1) (A.set (off + k) v) (by simp; omega)]
    congr 1
    rw [show off + (k + 1) = off + k + 1 by omega]
    have hk : off + k < A.length := by omega
    rw [List.set_eq_take_append_cons_drop, if_pos hk]
    have e1 : (A.take (off + k)).length = off + k := by simp; omega
    have e2 : List.take (off + k + 1) (List.take (off + k) A ++ v :: List.drop (off + k + 1) A) = List.take (off + k) A ++ [v] := by
      rw [List.take_append, e1, show off + k + 1 - (off + k) = 1 by omega, List.take_take, Nat.min_eq_right (by omega)]
      rfl
    have e3 : List.drop (off + k + 1 + vs.length) (List.take (off + k) A ++ v :: List.drop (off + k + 1) A) = List.drop (off + k + (vs.length + 1)) A := by
      rw [List.drop_append, e1, show off + k + 1 + vs.length - (off + k) = vs.length + 1 by omega, List.drop_of_length_le (by omega), List.nil_append, List.drop_succ_cons, List.drop_drop]
      congr 1; omega
    rw [e2, e3, List.length_cons, List.append_assoc]
    rfl
theorem fill_one (place : Nat → Option (Nat × Nat)) (A vs : List Value) (i off : Nat) (rest : List (Nat × Value)) (hp : place i = some (off, vs.length)) (h : off + vs.length ≤ A.length) :
    Instr.fill place A.toArray ((i, .agg vs.toArray) :: rest) = Instr.fill place (A.take off ++ (vs ++ A.drop (off + vs.length))).toArray rest := by
  have hc : (decide ((Value.agg vs.toArray).cells.size ≠ vs.length) || decide (off + (Value.agg vs.toArray).cells.size > A.toArray.size)) = false := by
    have e1 : (Value.agg vs.toArray).cells.size = vs.length := by simp [Value.cells]
    rw [e1]; simp; omega
  rw [Instr.fill, hp]
  simp only [hc, Bool.false_eq_true, if_false]
  have := fold_set off vs 0 A (by omega)
  rw [Nat.add_zero] at this
  rw [← this, ← Array.foldl_toList]
  simp [Value.cells]
theorem info23z : (Try.prog.info? 23).map (fun i => (i.size, i.zero.isSome)) = some (256, true) := by kernel_rfl
theorem built2 {a b : List Int} (ha : a.length = 256) (hb : b.length = 256) : Try.prog.builtSlice 23 2 [(0, .agg (iv a).toArray), (1, .agg (iv b).toArray)] = some (iv a ++ iv b).toArray := by
  have hi := info23z
  unfold Program.builtSlice
  cases hq : Try.prog.info? 23 with
  | none => simp [hq] at hi
  | some ie =>
    simp only [hq, Option.map_some, Option.some.injEq, Prod.mk.injEq] at hi
    obtain ⟨hs, hz⟩ := hi
    obtain ⟨z, hz⟩ := Option.isSome_iff_exists.1 hz
    simp only [hz, hs]
    rw [if_neg (by omega)]
    obtain ⟨A, hA⟩ : ∃ A : List Value, ((Array.range (2 * 256)).map (z.cells[· % z.cells.size]!)) = A.toArray := ⟨_, rfl⟩
    have hl : A.length = 512 := by
      have : ((Array.range (2 * 256)).map (z.cells[· % z.cells.size]!)).size = 512 := by simp
      rw [hA] at this; simpa using this
    rw [hA, fill_one _ A (iv a) 0 0 _ (by rw [iv_length, ha]) (by rw [iv_length, ha]; omega), fill_one _ _ (iv b) 1 256 _ (by rw [iv_length, hb]) (by simp [iv_length, ha, hb, hl])]
    show some _ = _
    congr 2
    rw [iv_length, iv_length, ha, hb]
    have e1 : (iv a).length = 256 := by rw [iv_length, ha]
    have e2 : (A.drop 256).length = 256 := by rw [List.length_drop, hl]
    simp only [Nat.zero_add, List.take_zero, List.nil_append]
    have e3 : List.drop (256 + 256) (iv a ++ List.drop 256 A) = [] := List.drop_of_length_le (by rw [List.length_append, e1, e2]; omega)
    have e4 : List.take 256 (iv a ++ List.drop 256 A) = iv a := by rw [List.take_append, e1, List.take_of_length_le (by omega)]; simp
    rw [e3, e4, List.append_nil]
theorem built1 {a : List Int} (ha : a.length = 256) : Try.prog.builtSlice 23 1 [(0, .agg (iv a).toArray)] = some (iv a).toArray := by
  have hi := info23z
  unfold Program.builtSlice
  cases hq : Try.prog.info? 23 with
  | none => simp [hq] at hi
  | some ie =>
    simp only [hq, Option.map_some, Option.some.injEq, Prod.mk.injEq] at hi
    obtain ⟨hs, hz⟩ := hi
    obtain ⟨z, hz⟩ := Option.isSome_iff_exists.1 hz
    simp only [hz, hs]
    rw [if_neg (by omega)]
    obtain ⟨A, hA⟩ : ∃ A : List Value, ((Array.range (1 * 256)).map (z.cells[· % z.cells.size]!)) = A.toArray := ⟨_, rfl⟩
    have hl : A.length = 256 := by
      have : ((Array.range (1 * 256)).map (z.cells[· % z.cells.size]!)).size = 256 := by simp
      rw [hA] at this; simpa using this
    rw [hA, fill_one _ A (iv a) 0 0 _ (by rw [iv_length, ha]) (by rw [iv_length, ha]; omega)]
    show some _ = _
    congr 2
    rw [iv_length, ha]
    simp [List.drop_of_length_le (show A.length ≤ 256 by omega)]
section
variable {w : World} {ops : Array Oper} {rest : List Oper} {o : Oper} {a : Act} {Q : Exit → Act → World → Prop}
theorem bs2 (hgd : o.guard = none) (x y : Operand) (ho : o.op = .buildSlice 58 2 #[(0, x), (1, y)]) {c d : List Int} (hx : a.eval x = .agg (iv c).toArray) (hy : a.eval y = .agg (iv d).toArray) (hc : c.length = 256) (hd : d.length = 256)
    (h : wpList Try.prog ops Q rest (a.put o.dst (.slice (some ⟨w.heap.size, 0, none⟩) 2 2)) (w.alloc (.cells (iv c ++ iv d).toArray 23))) : wpList Try.prog ops Q (o :: rest) a w :=
  Great.wpList_buildSliceTo hgd 58 23 2 _ ho _ rfl _ rfl Try.underlying58 _ (by simp only [List.map_toArray, List.map_cons, List.map_nil, hx, hy]; exact built2 hc hd) h
theorem bs1 (hgd : o.guard = none) (x : Operand) (ho : o.op = .buildSlice 58 1 #[(0, x)]) {c : List Int} (hx : a.eval x = .agg (iv c).toArray) (hc : c.length = 256)
    (h : wpList Try.prog ops Q rest (a.put o.dst (.slice (some ⟨w.heap.size, 0, none⟩) 1 1)) (w.alloc (.cells (iv c).toArray 23))) : wpList Try.prog ops Q (o :: rest) a w :=
  Great.wpList_buildSliceTo hgd 58 23 1 _ ho _ rfl _ rfl Try.underlying58 _ (by simp only [List.map_toArray, List.map_cons, List.map_nil, hx]; exact built1 hc) h
end
end Go.Proofs.Ytbhhpopckchibaa
