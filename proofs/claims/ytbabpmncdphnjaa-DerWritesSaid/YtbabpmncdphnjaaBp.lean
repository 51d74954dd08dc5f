/- PLAIN: the document's bytes of an item, cut where they are too many. No model. -/
import Derived.Test.YtbabpmncdphnjaaEn
namespace Go.Proofs.Ytbabpmncdphnjaa
set_option linter.unusedVariables false
set_option maxRecDepth 100000

/-- a tag and a length -/
def hdL (t n : Nat) : List Nat := if n < 128 then [t, n] else if n < 256 then [t, 129, n] else if n < 65536 then [t, 130, n / 256 % 256, n % 256] else [t, 131, n / 65536 % 256, n / 256 % 256, n % 256]
theorem hdL_short {t n : Nat} (h : n < 65536) : hdL t n = t :: lenB n := by
  unfold hdL lenB; repeat' split
  all_goals first | rfl | (exfalso; omega)
theorem hdL_len (t n : Nat) : 2 ≤ (hdL t n).length ∧ (hdL t n).length ≤ 5 := by
  unfold hdL; repeat' split
  all_goals simp
theorem hdL_max (t : Nat) : (hdL t 65536).length = 5 := by unfold hdL; simp
theorem hdL_lt {t n : Nat} (ht : t < 256) : ∀ x ∈ hdL t n, x < 256 := by
  unfold hdL; repeat' split
  all_goals (intro x hx; simp at hx; omega)
def wrapD (t : Nat) (i : List Nat) : List Nat := if 65536 < i.length then hdL t 65536 ++ i else hdL t i.length ++ i
theorem wrapD_len (t : Nat) (i : List Nat) : i.length + 2 ≤ (wrapD t i).length ∧ (wrapD t i).length ≤ 5 + i.length := by
  unfold wrapD; split
  · have := hdL_len t 65536; simp only [List.length_append]; omega
  · have := hdL_len t i.length; simp only [List.length_append]; omega
def Tr.dIn : Tr → List Nat → List Nat
  | .nil, acc => acc
  | .node t b k r, acc => if acc.length ≤ 65536 then r.dIn (acc ++ wrapD t (if t / 32 % 2 = 1 then k.dIn [] else b)) else acc
def dI (t : Nat) (b : List Nat) (k : Tr) : List Nat := wrapD t (if t / 32 % 2 = 1 then k.dIn [] else b)
theorem dIn_node (t : Nat) (b : List Nat) (k r : Tr) (acc : List Nat) : (Tr.node t b k r).dIn acc = if acc.length ≤ 65536 then r.dIn (acc ++ dI t b k) else acc := rfl
theorem dIn_long (T : Tr) (acc : List Nat) (h : 65536 < acc.length) : T.dIn acc = acc := by
  cases T with
  | nil => rfl
  | node t b k r => simp only [Tr.dIn]; rw [if_neg (by omega)]
theorem dIn_sz : ∀ (T : Tr) (acc : List Nat), (T.dIn acc).length ≤ acc.length + 6 * T.sz
  | .nil, acc => by simp [Tr.dIn]
  | .node t b k r, acc => by
    rw [dIn_node]
    split
    · have h1 := dIn_sz r (acc ++ dI t b k)
      have h2 : (dI t b k).length ≤ 5 + (b.length + 6 * k.sz) := by
        have h3 := (wrapD_len t (if t / 32 % 2 = 1 then k.dIn [] else b)).2
        unfold dI
        split at h3
        · have h4 := dIn_sz k []
          rename_i hq; rw [if_pos hq]; simp only [List.length_nil] at h4; omega
        · rename_i hq; rw [if_neg hq]; omega
      simp only [List.length_append, Tr.sz] at h1 ⊢
      omega
    · omega
theorem dI_sz (t : Nat) (b : List Nat) (k : Tr) : (dI t b k).length ≤ 5 + (b.length + 6 * k.sz) := by
  have h3 := (wrapD_len t (if t / 32 % 2 = 1 then k.dIn [] else b)).2
  unfold dI
  split at h3
  · have h4 := dIn_sz k []
    rename_i hq; rw [if_pos hq]; simp only [List.length_nil] at h4; omega
  · rename_i hq; rw [if_neg hq]; omega
theorem dIn_ge : ∀ (T : Tr) (acc : List Nat), acc.length ≤ (T.dIn acc).length
  | .nil, acc => Nat.le_refl _
  | .node t b k r, acc => by
    rw [dIn_node]
    split
    · have := dIn_ge r (acc ++ dI t b k)
      simp only [List.length_append] at this; omega
    · exact Nat.le_refl _
/-- what is right: where it is not too long, these are its bytes; else they are too many -/
theorem wrap_right {t : Nat} {b i : List Nat} {k : Tr} (m : Nat) (hm : b.length + k.enc.length = m) (h1 : m ≤ 65536 → i = b ++ k.enc) (h2 : 65536 < m → 65536 < i.length) :
    ((encI t b k).length ≤ 65536 → wrapD t i = encI t b k) ∧ (65536 < (encI t b k).length → 65536 < (wrapD t i).length) := by
  have hl := encI_length t b k
  have hb := lenB_len (b.length + k.enc.length)
  rw [hm] at hl hb
  refine ⟨fun h => ?_, fun h => ?_⟩
  · have hi := h1 (by omega)
    have hil : i.length = m := by rw [hi, List.length_append]; exact hm
    unfold wrapD
    rw [if_neg (by omega), hil, hdL_short (by omega), hi]
    simp [encI, hm]
  · by_cases hc : m ≤ 65536
    · have hi := h1 hc
      have hil : i.length = m := by rw [hi, List.length_append]; exact hm
      unfold wrapD
      rw [if_neg (by omega), hil, List.length_append, hil]
      by_cases hm2 : m = 65536
      · subst hm2; rw [hdL_max]; omega
      · rw [hdL_short (by omega), List.length_cons]; omega
    · have := (wrapD_len t i).1
      have := h2 (by omega)
      omega
theorem dIn_right : ∀ (T : Tr) (d : Nat) (acc : List Nat), T.err d = 0 → (acc.length + T.enc.length ≤ 65536 → T.dIn acc = acc ++ T.enc) ∧ (65536 < acc.length + T.enc.length → 65536 < (T.dIn acc).length)
  | .nil, d, acc, _ => by simp [Tr.dIn, Tr.enc]
  | .node t b k r, d, acc, he => by
    rw [err_node] at he
    have he1 : errI t b k d = 0 := by
      by_cases h : errI t b k d = 0
      · exact h
      · rw [if_pos h] at he; exact he
    rw [if_neg (by omega)] at he
    obtain ⟨h1, h2, h3, h4, h5⟩ := errI_zero he1
    have hI : ((encI t b k).length ≤ 65536 → dI t b k = encI t b k) ∧ (65536 < (encI t b k).length → 65536 < (dI t b k).length) := by
      by_cases hq : t / 32 % 2 = 1
      · obtain rfl := h3 hq
        have hk := dIn_right k (d + 1) [] h5
        simp only [List.length_nil, Nat.zero_add, List.nil_append] at hk
        unfold dI; rw [if_pos hq]
        exact wrap_right k.enc.length (by simp) (fun h => by simpa using hk.1 h) (fun h => hk.2 h)
      · obtain rfl := h4 hq
        unfold dI; rw [if_neg hq]
        exact wrap_right b.length (by simp [Tr.enc]) (fun h => by simp [Tr.enc]) (fun h => h)
    rw [dIn_node, enc_node]
    simp only [List.length_append]
    by_cases ha : acc.length ≤ 65536
    · rw [if_pos ha]
      by_cases hl : (encI t b k).length ≤ 65536
      · rw [hI.1 hl]
        have hr := dIn_right r d (acc ++ encI t b k) he
        simp only [List.length_append] at hr
        refine ⟨fun h => ?_, fun h => ?_⟩
        · rw [hr.1 (by omega)]; simp
        · exact hr.2 (by omega)
      · have hx := hI.2 (by omega)
        rw [dIn_long r _ (by simp only [List.length_append]; omega)]
        refine ⟨fun h => by omega, fun h => ?_⟩
        simp only [List.length_append]; omega
    · rw [if_neg ha]
      exact ⟨fun h => by omega, fun h => by omega⟩
theorem dI_right {t : Nat} {b : List Nat} {k : Tr} {d : Nat} (he : errI t b k d = 0) : ((encI t b k).length ≤ 65536 → dI t b k = encI t b k) ∧ (65536 < (encI t b k).length → 65536 < (dI t b k).length) := by
  obtain ⟨h1, h2, h3, h4, h5⟩ := errI_zero he
  by_cases hq : t / 32 % 2 = 1
  · obtain rfl := h3 hq
    have hk := dIn_right k (d + 1) [] h5
    simp only [List.length_nil, Nat.zero_add, List.nil_append] at hk
    unfold dI; rw [if_pos hq]
    exact wrap_right k.enc.length (by simp) (fun h => by simpa using hk.1 h) (fun h => hk.2 h)
  · obtain rfl := h4 hq
    unfold dI; rw [if_neg hq]
    exact wrap_right b.length (by simp [Tr.enc]) (fun h => by simp [Tr.enc]) (fun h => h)
end Go.Proofs.Ytbabpmncdphnjaa
