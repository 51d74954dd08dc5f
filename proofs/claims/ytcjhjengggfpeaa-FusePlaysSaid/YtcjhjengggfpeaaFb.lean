/- The cells of fuses: the program's and the document's. No condition. -/
import Derived.Test.YtcjhjengggfpeaaFe
namespace Go.Proofs.Ytcjhjengggfpeaa
open Go.RowKit
set_option linter.unusedVariables false
set_option maxRecDepth 100000
set_option linter.unusedSimpArgs false
/-- a number that fits an int -/
def I64 (n : Int) : Prop := -9223372036854775808 ≤ n ∧ n < 9223372036854775808
/-- a byte of the fuses as two cells -/
def prV : List (Nat × Bool) → List Value
  | [] => []
  | p :: l => .int .u8 (p.1 : Nat) :: .bool p.2 :: prV l
theorem prV_length : ∀ l : List (Nat × Bool), (prV l).length = 2 * l.length
  | [] => rfl
  | p :: l => by simp only [prV, List.length_cons, prV_length l]; omega
theorem prV_v : ∀ (l : List (Nat × Bool)) (i : Nat), i < l.length → (prV l)[i * 2]? = some (.int .u8 ((l.getD i (0, false)).1 : Nat))
  | [], i, h => by simp at h
  | p :: l, 0, _ => rfl
  | p :: l, i + 1, h => by
    have := prV_v l i (by simpa using h)
    rw [show (i + 1) * 2 = i * 2 + 1 + 1 by omega]
    simpa [prV] using this
theorem prV_b : ∀ (l : List (Nat × Bool)) (i : Nat), i < l.length → (prV l)[i * 2 + 1]? = some (.bool (l.getD i (0, false)).2)
  | [], i, h => by simp at h
  | p :: l, 0, _ => rfl
  | p :: l, i + 1, h => by
    have := prV_b l i (by simpa using h)
    rw [show (i + 1) * 2 + 1 = i * 2 + 1 + 1 + 1 by omega]
    simpa [prV] using this
theorem prV_set : ∀ (l : List (Nat × Bool)) (i : Nat) (x : Nat) (b : Bool), ((prV l).set (i * 2) (.int .u8 (x : Nat))).set (i * 2 + 1) (.bool b) = prV (l.set i (x, b))
  | [], i, _, _ => rfl
  | p :: l, 0, _, _ => rfl
  | p :: l, i + 1, x, b => by
    have := prV_set l i x b
    rw [show (i + 1) * 2 = i * 2 + 1 + 1 by omega]
    simpa [prV] using this
/-- fuses: each byte and whether it is burnt, and the counters -/
def fuV (l : List (Nat × Bool)) (c : List Nat) : List Value := prV l ++ natsV .u32 c
/-- the document's fuses -/
def ruV (l : List (Nat × Bool)) (c : List Nat) : List Value := natsV .u8 (l.map Prod.fst) ++ (l.map fun p => Value.bool p.2) ++ natsV .u32 c
/-- 64 bytes, 4 counters -/
structure FuOk (l : List (Nat × Bool)) (c : List Nat) : Prop where
  ll : l.length = 64
  lc : c.length = 4
  bl : ∀ x ∈ l, x.1 < 256
  bc : ∀ x ∈ c, x < 4294967296
def FuAt (w : World) (g : Nat) (l : List (Nat × Bool)) (c : List Nat) : Prop := Blk w g 55 (fuV l c)
def RuAt (w : World) (g : Nat) (l : List (Nat × Bool)) (c : List Nat) : Prop := Blk w g 31 (ruV l c)
section
variable {w : World} {g : Nat} {l : List (Nat × Bool)} {c : List Nat}
theorem FuAt.v (h : FuAt w g l c) (k : FuOk l c) (i : Nat) (hi : i < 64) : w.cell? ⟨g, i * 2, none⟩ = some (.int .u8 ((l.getD i (0, false)).1 : Nat)) := by
  rw [Blk.cell h, fuV, List.getElem?_append_left (by rw [prV_length, k.ll]; omega), prV_v l i (by rw [k.ll]; exact hi)]
theorem FuAt.b (h : FuAt w g l c) (k : FuOk l c) (i : Nat) (hi : i < 64) : w.cell? ⟨g, i * 2 + 1, none⟩ = some (.bool (l.getD i (0, false)).2) := by
  rw [Blk.cell h, fuV, List.getElem?_append_left (by rw [prV_length, k.ll]; omega), prV_b l i (by rw [k.ll]; exact hi)]
theorem FuAt.n (h : FuAt w g l c) (k : FuOk l c) (i : Nat) (hi : i < 4) : w.cell? ⟨g, 128 + i, none⟩ = some (.int .u32 (c.getD i 0 : Nat)) := by
  rw [Blk.cell h, fuV, List.getElem?_append_right (by rw [prV_length, k.ll]; omega), prV_length, k.ll, show 128 + i - 2 * 64 = i by omega, natsV_get _ _ _ (by rw [k.lc]; exact hi)]
theorem FuAt.put (h : FuAt w g l c) (k : FuOk l c) (i : Nat) (hi : i < 64) (x : Nat) (b : Bool) : FuAt ((w.setCell ⟨g, i * 2, none⟩ (.int .u8 (x : Nat))).setCell ⟨g, i * 2 + 1, none⟩ (.bool b)) g (l.set i (x, b)) c := by
  have := (Blk.set h (i * 2) (.int .u8 (x : Nat))).set (i * 2 + 1) (.bool b)
  unfold FuAt fuV at *
  rw [List.set_append_left _ _ (by rw [prV_length, k.ll]; omega), List.set_append_left _ _ (by rw [List.length_set, prV_length, k.ll]; omega), prV_set] at this
  exact this
theorem FuAt.up (h : FuAt w g l c) (k : FuOk l c) (i : Nat) (x : Nat) : FuAt (w.setCell ⟨g, 128 + i, none⟩ (.int .u32 (x : Nat))) g l (c.set i x) := by
  have := Blk.set h (128 + i) (.int .u32 (x : Nat))
  unfold FuAt fuV at *
  rw [List.set_append_right _ _ (by rw [prV_length, k.ll]; omega), prV_length, k.ll, show 128 + i - 2 * 64 = i by omega, natsV_set] at this
  exact this
theorem RuAt.v (h : RuAt w g l c) (k : FuOk l c) (i : Nat) (hi : i < 64) : w.cell? ⟨g, i, none⟩ = some (.int .u8 ((l.getD i (0, false)).1 : Nat)) := by
  have hl := k.ll
  rw [Blk.cell h, ruV, List.append_assoc, List.getElem?_append_left (by rw [natsV_length, List.length_map, hl]; exact hi), natsV_get _ _ _ (by rw [List.length_map, hl]; exact hi)]
  simp [List.getD_eq_getElem?_getD, List.getElem?_eq_getElem (show i < l.length by omega)]
theorem RuAt.b (h : RuAt w g l c) (k : FuOk l c) (i : Nat) (hi : i < 64) : w.cell? ⟨g, 64 + i, none⟩ = some (.bool (l.getD i (0, false)).2) := by
  have hl := k.ll
  rw [Blk.cell h, ruV, List.getElem?_append_left (by rw [List.length_append, natsV_length, List.length_map, List.length_map, hl]; omega), List.getElem?_append_right (by rw [natsV_length, List.length_map, hl]; omega), natsV_length, List.length_map, hl, show 64 + i - 64 = i by omega]
  simp [List.getD_eq_getElem?_getD, List.getElem?_eq_getElem (show i < l.length by omega)]
theorem RuAt.n (h : RuAt w g l c) (k : FuOk l c) (i : Nat) (hi : i < 4) : w.cell? ⟨g, 128 + i, none⟩ = some (.int .u32 (c.getD i 0 : Nat)) := by
  have hl := k.ll
  have hlen : (natsV .u8 (l.map Prod.fst) ++ (l.map fun p => Value.bool p.2)).length = 128 := by rw [List.length_append, natsV_length, List.length_map, List.length_map, hl]
  rw [Blk.cell h, ruV, List.getElem?_append_right (by rw [hlen]; omega), hlen, show 128 + i - 128 = i by omega, natsV_get _ _ _ (by rw [k.lc]; exact hi)]
theorem RuAt.put (h : RuAt w g l c) (k : FuOk l c) (i : Nat) (hi : i < 64) (x : Nat) (b : Bool) : RuAt ((w.setCell ⟨g, i, none⟩ (.int .u8 (x : Nat))).setCell ⟨g, 64 + i, none⟩ (.bool b)) g (l.set i (x, b)) c := by
  have hl := k.ll
  have := (Blk.set h i (.int .u8 (x : Nat))).set (64 + i) (.bool b)
  unfold RuAt ruV at *
  rw [List.append_assoc, List.set_append_left _ _ (by rw [natsV_length, List.length_map, hl]; exact hi), natsV_set, List.set_append_right _ _ (by rw [natsV_length, List.length_set, List.length_map, hl]; omega), natsV_length, List.length_set, List.length_map, hl, show 64 + i - 64 = i by omega, List.set_append_left _ _ (by rw [List.length_map, hl]; exact hi), ← List.append_assoc] at this
  rw [List.map_set, List.map_set]
  exact this
theorem RuAt.up (h : RuAt w g l c) (k : FuOk l c) (i : Nat) (x : Nat) : RuAt (w.setCell ⟨g, 128 + i, none⟩ (.int .u32 (x : Nat))) g l (c.set i x) := by
  have hl := k.ll
  have hlen : (natsV .u8 (l.map Prod.fst) ++ (l.map fun p => Value.bool p.2)).length = 128 := by rw [List.length_append, natsV_length, List.length_map, List.length_map, hl]
  have := Blk.set h (128 + i) (.int .u32 (x : Nat))
  unfold RuAt ruV at *
  rw [List.set_append_right _ _ (by rw [hlen]; omega), hlen, show 128 + i - 128 = i by omega, natsV_set] at this
  exact this
theorem FuOk.put (k : FuOk l c) (i x : Nat) (b : Bool) (hx : x < 256) : FuOk (l.set i (x, b)) c :=
  ⟨by rw [List.length_set]; exact k.ll, k.lc, fun y hy => by
    rcases List.mem_or_eq_of_mem_set hy with hy | rfl
    · exact k.bl y hy
    · exact hx, k.bc⟩
theorem FuOk.up (k : FuOk l c) (i x : Nat) (hx : x < 4294967296) : FuOk l (c.set i x) :=
  ⟨k.ll, by rw [List.length_set]; exact k.lc, k.bl, fun y hy => by
    rcases List.mem_or_eq_of_mem_set hy with hy | rfl
    · exact k.bc y hy
    · exact hx⟩
theorem FuOk.at (k : FuOk l c) (i : Nat) : (l.getD i (0, false)).1 < 256 := by
  by_cases hk : i < l.length
  · rw [List.getD_eq_getElem?_getD, List.getElem?_eq_getElem hk]; exact k.bl _ (List.getElem_mem hk)
  · rw [List.getD_eq_getElem?_getD, List.getElem?_eq_none (by omega)]; decide
theorem FuOk.cat (k : FuOk l c) (i : Nat) : c.getD i 0 < 4294967296 := by
  by_cases hk : i < c.length
  · rw [List.getD_eq_getElem?_getD, List.getElem?_eq_getElem hk]; exact k.bc _ (List.getElem_mem hk)
  · rw [List.getD_eq_getElem?_getD, List.getElem?_eq_none (by omega)]; decide
end
/-- none is burnt -/
def l0 : List (Nat × Bool) := List.replicate 64 (0, false)
def c0 : List Nat := [0, 0, 0, 0]
theorem ok0 : FuOk l0 c0 := ⟨rfl, rfl, fun x hx => by rw [l0] at hx; rw [(List.mem_replicate.1 hx).2]; decide, fun x hx => by simp [c0] at hx; omega⟩
end Go.Proofs.Ytcjhjengggfpeaa
