/- The document's sponge in memory: its cells. No condition. -/
import Derived.Test.YtidnlaibfkjgpaaDoorKRefP
import Derived.Test.YtidnlaibfkjgpaaDoorKBg
import Derived.Test.YtidnlaibfkjgpaaDoorKRefY
import Derived.Test.YtidnlaibfkjgpaaDoorOwn
namespace Go.Proofs.YtidnlaibfkjgpaaDoor
open Go.RowKit
set_option linter.unusedVariables false
/-- the document's sponge: kind, what came in, what goes out, how much, the words, the rates -/
def rsV (K I O N : Value) (s : List Nat) (R : Value) : List Value := K :: I :: O :: N :: (natsV .u64 s ++ [R])
section
variable {w : World} {g : Nat} {K I O N R : Value} {s : List Nat}
theorem rs_kind (h : Blk w g 72 (rsV K I O N s R)) : w.cell? ⟨g, 0, none⟩ = some K := by rw [h.cell]; rfl
theorem rs_in (h : Blk w g 72 (rsV K I O N s R)) : w.cell? ⟨g, 1, none⟩ = some I := by rw [h.cell]; rfl
theorem rs_out (h : Blk w g 72 (rsV K I O N s R)) : w.cell? ⟨g, 2, none⟩ = some O := by rw [h.cell]; rfl
theorem rs_n (h : Blk w g 72 (rsV K I O N s R)) : w.cell? ⟨g, 3, none⟩ = some N := by rw [h.cell]; rfl
theorem rs_word (h : Blk w g 72 (rsV K I O N s R)) (i : Nat) (hi : i < s.length) : w.cell? ⟨g, 4 + i, none⟩ = some (.int .u64 (s.getD i 0 : Nat)) := by
  rw [h.cell, Nat.add_comm, ← natsV_get .u64 s i hi]
  show (natsV .u64 s ++ _)[i]? = _
  rw [List.getElem?_append_left (by rw [natsV_length]; exact hi)]
theorem rs_rates (h : Blk w g 72 (rsV K I O N s R)) (hs : s.length = 25) : w.cell? ⟨g, 29, none⟩ = some R := by
  rw [h.cell, show 29 = 25 + 4 by omega]
  show (natsV .u64 s ++ _)[25]? = _
  rw [List.getElem?_append_right (by rw [natsV_length, hs]; omega), natsV_length, hs]; rfl
theorem rs_words (h : Blk w g 72 (rsV K I O N s R)) : w.rangeAt g 4 (natsV .u64 s) := by
  intro j v hv
  have hj : j < (natsV .u64 s).length := (List.getElem?_eq_some_iff.1 hv).1
  rw [rs_word h j (by rwa [natsV_length] at hj), ← hv, natsV_get .u64 s j (by rwa [natsV_length] at hj)]
theorem rs_there (h : Blk w g 72 (rsV K I O N s R)) (hs : s.length = 25) (o m : Nat) (ho : o + m ≤ 30) : w.there g o m := by
  intro j hj
  refine ⟨?_, h.free _⟩
  rw [h.cell, List.getElem?_eq_getElem (by simp [rsV, natsV_length, hs]; omega)]; rfl
theorem rs_setWord (h : Blk w g 72 (rsV K I O N s R)) (i x : Nat) (hi : i < s.length) : Blk (w.setCell ⟨g, 4 + i, none⟩ (.int .u64 (x : Nat))) g 72 (rsV K I O N (s.set i x) R) := by
  have h1 := h.set (4 + i) (.int .u64 (x : Nat))
  have e : (rsV K I O N s R).set (4 + i) (.int .u64 (x : Nat)) = rsV K I O N (s.set i x) R := by
    unfold rsV
    rw [Nat.add_comm, List.set_cons_succ, List.set_cons_succ, List.set_cons_succ, List.set_cons_succ, List.set_append_left _ _ (by rw [natsV_length]; exact hi), natsV_set]
  rw [e] at h1; exact h1
theorem rs_setRates (h : Blk w g 72 (rsV K I O N s R)) (hs : s.length = 25) (v : Value) : Blk (w.setCell ⟨g, 29, none⟩ v) g 72 (rsV K I O N s v) := by
  have h1 := h.set 29 v
  have e : (rsV K I O N s R).set 29 v = rsV K I O N s v := by
    unfold rsV
    rw [show 29 = 25 + 4 by omega, List.set_cons_succ, List.set_cons_succ, List.set_cons_succ, List.set_cons_succ, List.set_append_right _ _ (by rw [natsV_length, hs]; omega), natsV_length, hs]; rfl
  rw [e] at h1; exact h1
theorem rs_setWords {s' : List Nat} (h : Blk w g 72 (rsV K I O N s R)) (hl : s.length = s'.length) : Blk (w.setCells g 4 (natsV .u64 s')) g 72 (rsV K I O N s' R) := by
  have h1 := setCells_blk g 72 (natsV .u64 s') 4 w _ h
  have h2 := setL_mid (natsV .u64 s') (natsV .u64 s) [K, I, O, N] [R] (by simp [natsV_length, hl])
  have e : setL (rsV K I O N s R) 4 (natsV .u64 s') = rsV K I O N s' R := h2
  rw [e] at h1; exact h1
end
end Go.Proofs.YtidnlaibfkjgpaaDoor
