/- The document shifts bit by bit. Condition: the sizes of the arguments. -/
import Derived.Test.YtfffmoolkgheaaaSm
namespace Go.Proofs.Ytfffmoolkgheaaa
open Go.RowKit
set_option linter.unusedVariables false
set_option linter.unusedSimpArgs false
theorem bcell {W w1 : World} (hb : Below W.heap.size W w1) : (∀ b o, b < W.heap.size → w1.cell? ⟨b, o, none⟩ = W.cell? ⟨b, o, none⟩) ∧ (∀ b o, b < W.heap.size → w1.frozen? ⟨b, o, none⟩ = W.frozen? ⟨b, o, none⟩) :=
  ⟨fun b o h => hb.cell (p := ⟨b, o, none⟩) h, fun b o h => hb.frozen (p := ⟨b, o, none⟩) h⟩
theorem range_keep {w w' : World} {g : Nat} {l : List Nat} (h : w.rangeAt g 0 (natsV .u64 l)) (hb : Below w.heap.size w w') : w'.rangeAt g 0 (natsV .u64 l) := by
  intro j v hv
  have h1 := h j v hv
  exact (hb.cell (World.block_lt_of_cell? w _ h1)).trans h1
theorem blk_range {w : World} {G : Nat} {t : TypeId} {l : List Nat} (h : Blk w G t (natsV .u64 l)) : w.rangeAt G 0 (natsV .u64 l) := by
  intro j v hv
  rw [Nat.zero_add, h.cell, hv]
/-- word j of T, of its bits from s on -/
def part_ (T s j : Nat) : Nat := dgt (2 ^ 64) T j / 2 ^ (s - 64 * j)
theorem tell_set (f : Nat → Nat) (n p v : Nat) : (tell f n).set p v = tell (fun i => if i = p then v else f i) n := by
  apply List.ext_getElem?
  intro i
  rw [List.getElem?_set]
  simp only [tell, List.getElem?_map, List.length_map, List.length_range]
  by_cases hi : i < n
  · rw [List.getElem?_range hi]
    by_cases hp : p = i
    · subst hp; simp [hi]
    · rw [if_neg hp]; simp [Ne.symm hp, fun h : i = p => hp h.symm]
  · rw [List.getElem?_eq_none (by simpa using hi)]
    by_cases hp : p = i
    · subst hp; simp [hi]
    · simp [hp]
theorem div_pow_zero {v e : Nat} (hv : v < 2 ^ 64) (he : 64 ≤ e) : v / 2 ^ e = 0 :=
  Nat.div_eq_of_lt (Nat.lt_of_lt_of_le hv (Nat.pow_le_pow_right (by decide) he))
theorem part_step (T s : Nat) (hs : s < 256) : (tell (part_ T (s + 1)) 4).set (s / 64) (2 * part_ T (s + 1) (s / 64) + T / 2 ^ s % 2) = tell (part_ T s) 4 := by
  rw [tell_set]
  refine tell_congr fun i hi => ?_
  by_cases hij : i = s / 64
  · rw [if_pos hij]
    have hb := bit_word T i (s % 64) (by omega)
    rw [show 64 * i + s % 64 = s by omega] at hb
    subst hij
    unfold part_
    rw [show s + 1 - 64 * (s / 64) = s % 64 + 1 by omega, show s - 64 * (s / 64) = s % 64 by omega, ← hb, Nat.pow_succ 2 (s % 64), ← Nat.div_div_eq_div_mul]
    omega
  · rw [if_neg hij]
    unfold part_
    have hv := dgt_lt (B := 2 ^ 64) (by decide) T i
    by_cases hlt : i < s / 64
    · rw [div_pow_zero hv (by omega), div_pow_zero hv (by omega)]
    · rw [show s + 1 - 64 * i = 0 by omega, show s - 64 * i = 0 by omega]
theorem part_top (T : Nat) : tell (part_ T 256) 4 = zeros 4 := by
  have : tell (part_ T 256) 4 = tell (fun _ => 0) 4 := tell_congr fun i hi => div_pow_zero (dgt_lt (by decide) T i) (by omega)
  rw [this]; rfl
theorem part_zero (T : Nat) : tell (part_ T 0) 4 = wds 4 T := tell_congr fun i hi => by unfold part_; simp
theorem part_lt (T s j : Nat) : part_ T s j < 2 ^ 64 := Nat.lt_of_le_of_lt (Nat.div_le_self _ _) (dgt_lt (by decide) T j)
theorem four_of (l : List Nat) (h : l.length = 4) : ∃ a b c d, l = [a, b, c, d] := by
  match l, h with
  | [a, b, c, d], _ => exact ⟨a, b, c, d, rfl⟩
end Go.Proofs.Ytfffmoolkgheaaa
