/- The document's sponge in memory: its cells. No condition. -/
import Derived.Test.YtlbfnmmankoddaaDoorKRefP
import Derived.Test.YtlbfnmmankoddaaDoorKBg
import Derived.Test.YtlbfnmmankoddaaDoorKRefY
namespace Go.Proofs.YtlbfnmmankoddaaDoor
open Go.RowKit
set_option linter.unusedVariables false
theorem bin_one (w : World) (y : Nat) (hy : y < 256) : BIn (w.alloc (.cells #[.int .u8 (y : Nat)] 5)) (some ⟨w.heap.size, 0, none⟩) 1 1 [y] := by
  refine ⟨⟨rfl, by unfold maxLen; omega, by simpa using hy, .inr ⟨w.heap.size, 0, rfl, ?_⟩⟩, Nat.le_refl _, by unfold maxLen; omega, by omega, fun h => by cases h⟩
  intro i hi
  obtain rfl : i = 0 := by omega
  simp
theorem bin_pre {w : World} {b off n c f : Nat} {l : List Nat} (h : BIn w (some ⟨b, off, none⟩) n c l) (hf : f ≤ n) (hn : 0 < n) : BIn w (some ⟨b, off, none⟩) f c (l.take f) := by
  obtain ⟨⟨h1, h2, h3, h4⟩, h5, h6, h7, h8⟩ := h
  obtain ⟨b', o', he, hc⟩ := h4.resolve_left (by omega)
  injection he with he
  injection he with e1 e2
  subst e1 e2
  refine ⟨⟨by simp; omega, by omega, fun x hx => h3 x (List.mem_of_mem_take hx), .inr ⟨b, off, rfl, fun i hi => ?_⟩⟩, by omega, by omega, by omega, fun h => by cases h⟩
  rw [hc i (by omega)]
  congr 3
  simp only [List.getD_eq_getElem?_getD, List.getElem?_take]
  rw [if_pos hi]
/-- the document's sponge: kind, what came in, what goes out, how much, the words, the rates -/
def rsV (K I O N : Value) (s : List Nat) (R : Value) : List Value := K :: I :: O :: N :: (natsV .u64 s ++ [R])
section
variable {w : World} {g : Nat} {K I O N R : Value} {s : List Nat}
theorem rs_kind (h : Blk w g 43 (rsV K I O N s R)) : w.cell? ⟨g, 0, none⟩ = some K := by rw [h.cell]; rfl
theorem rs_in (h : Blk w g 43 (rsV K I O N s R)) : w.cell? ⟨g, 1, none⟩ = some I := by rw [h.cell]; rfl
theorem rs_out (h : Blk w g 43 (rsV K I O N s R)) : w.cell? ⟨g, 2, none⟩ = some O := by rw [h.cell]; rfl
theorem rs_n (h : Blk w g 43 (rsV K I O N s R)) : w.cell? ⟨g, 3, none⟩ = some N := by rw [h.cell]; rfl
theorem rs_word (h : Blk w g 43 (rsV K I O N s R)) (i : Nat) (hi : i < s.length) : w.cell? ⟨g, 4 + i, none⟩ = some (.int .u64 (s.getD i 0 : Nat)) := by
  rw [h.cell, Nat.add_comm, ← natsV_get .u64 s i hi]
  show (natsV .u64 s ++ _)[i]? = _
  rw [List.getElem?_append_left (by rw [natsV_length]; exact hi)]
theorem rs_rates (h : Blk w g 43 (rsV K I O N s R)) (hs : s.length = 25) : w.cell? ⟨g, 29, none⟩ = some R := by
  rw [h.cell, show 29 = 25 + 4 by omega]
  show (natsV .u64 s ++ _)[25]? = _
  rw [List.getElem?_append_right (by rw [natsV_length, hs]; omega), natsV_length, hs]; rfl
theorem rs_words (h : Blk w g 43 (rsV K I O N s R)) : w.rangeAt g 4 (natsV .u64 s) := by
  intro j v hv
  have hj : j < (natsV .u64 s).length := (List.getElem?_eq_some_iff.1 hv).1
  rw [rs_word h j (by rwa [natsV_length] at hj), ← hv, natsV_get .u64 s j (by rwa [natsV_length] at hj)]
theorem rs_there (h : Blk w g 43 (rsV K I O N s R)) (hs : s.length = 25) (o m : Nat) (ho : o + m ≤ 30) : w.there g o m := by
  intro j hj
  refine ⟨?_, h.free _⟩
  rw [h.cell, List.getElem?_eq_getElem (by simp [rsV, natsV_length, hs]; omega)]; rfl
theorem rs_setWord (h : Blk w g 43 (rsV K I O N s R)) (i x : Nat) (hi : i < s.length) : Blk (w.setCell ⟨g, 4 + i, none⟩ (.int .u64 (x : Nat))) g 43 (rsV K I O N (s.set i x) R) := by
  have h1 := h.set (4 + i) (.int .u64 (x : Nat))
  have e : (rsV K I O N s R).set (4 + i) (.int .u64 (x : Nat)) = rsV K I O N (s.set i x) R := by
    unfold rsV
    rw [Nat.add_comm, List.set_cons_succ, List.set_cons_succ, List.set_cons_succ, List.set_cons_succ, List.set_append_left _ _ (by rw [natsV_length]; exact hi), natsV_set]
  rw [e] at h1; exact h1
theorem rs_setRates (h : Blk w g 43 (rsV K I O N s R)) (hs : s.length = 25) (v : Value) : Blk (w.setCell ⟨g, 29, none⟩ v) g 43 (rsV K I O N s v) := by
  have h1 := h.set 29 v
  have e : (rsV K I O N s R).set 29 v = rsV K I O N s v := by
    unfold rsV
    rw [show 29 = 25 + 4 by omega, List.set_cons_succ, List.set_cons_succ, List.set_cons_succ, List.set_cons_succ, List.set_append_right _ _ (by rw [natsV_length, hs]; omega), natsV_length, hs]; rfl
  rw [e] at h1; exact h1
theorem rs_setWords {s' : List Nat} (h : Blk w g 43 (rsV K I O N s R)) (hl : s.length = s'.length) : Blk (w.setCells g 4 (natsV .u64 s')) g 43 (rsV K I O N s' R) := by
  have h1 := setCells_blk g 43 (natsV .u64 s') 4 w _ h
  have h2 := setL_mid (natsV .u64 s') (natsV .u64 s) [K, I, O, N] [R] (by simp [natsV_length, hl])
  have e : setL (rsV K I O N s R) 4 (natsV .u64 s') = rsV K I O N s' R := h2
  rw [e] at h1; exact h1
end
end Go.Proofs.YtlbfnmmankoddaaDoor
