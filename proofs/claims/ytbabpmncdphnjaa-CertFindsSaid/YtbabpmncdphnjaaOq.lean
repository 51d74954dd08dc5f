/- PLAIN: objects' names: figures in groups of 7 bits, and how they are read. No model. -/
import Derived.Test.YtbabpmncdphnjaaIt
namespace Go.Proofs.Ytbabpmncdphnjaa
set_option linter.unusedVariables false
set_option maxRecDepth 100000

/-- groups that are not the last, lowest first -/
def glo (v : Nat) : List Nat := if h : v = 0 then [] else (128 + v % 128) :: glo (v / 128)
termination_by v
decreasing_by omega
theorem glo_zero : glo 0 = [] := by rw [glo]; rfl
theorem glo_pos {v : Nat} (h : v ≠ 0) : glo v = (128 + v % 128) :: glo (v / 128) := by rw [glo, dif_neg h]
theorem glo_len : ∀ (n v : Nat), v < 128 ^ n → (glo v).length ≤ n
  | 0, v, h => by
    obtain rfl : v = 0 := by simpa using h
    rw [glo_zero]; exact Nat.le_refl _
  | n + 1, v, h => by
    by_cases h0 : v = 0
    · subst h0; rw [glo_zero]; exact Nat.zero_le _
    · rw [glo_pos h0, List.length_cons]
      have := glo_len n (v / 128) (by rw [Nat.pow_succ] at h; omega)
      omega
theorem glo_lt : ∀ (n v : Nat), v ≤ n → ∀ x ∈ glo v, x < 256
  | 0, v, h => by
    obtain rfl : v = 0 := by omega
    rw [glo_zero]; simp
  | n + 1, v, h => by
    by_cases h0 : v = 0
    · subst h0; rw [glo_zero]; simp
    · rw [glo_pos h0]
      intro x hx
      rcases List.mem_cons.1 hx with rfl | hx
      · omega
      · exact glo_lt n (v / 128) (by omega) x hx
/-- a figure's bytes -/
def fig (v : Nat) : List Nat := (glo (v / 128)).reverse ++ [v % 128]
theorem fig_lt (v : Nat) : ∀ x ∈ fig v, x < 256 := by
  intro x hx
  simp only [fig, List.mem_append, List.mem_reverse, List.mem_singleton] at hx
  rcases hx with hx | rfl
  · exact glo_lt _ _ (Nat.le_refl _) x hx
  · omega
theorem fig_len {v : Nat} (h : v ≤ 4294967295) : (fig v).length ≤ 5 := by
  have := glo_len 4 (v / 128) (by rw [show (128 : Nat) ^ 4 = 268435456 from rfl]; omega)
  simp [fig]; exact this
theorem fig_ne (v : Nat) : fig v ≠ [] := by simp [fig]
def rdGo : Nat → List Nat → Option (Nat × List Nat)
  | _, [] => none
  | acc, x :: r => if 4294967295 < 128 * acc + x % 128 then none else if x < 128 then some (128 * acc + x % 128, r) else rdGo (128 * acc + x % 128) r
/-- the figure that bytes begin with -/
def rdFig (b : List Nat) : Option (Nat × List Nat) := if b.getD 0 0 = 128 then none else rdGo 0 b
theorem rdGo_back : ∀ (b : List Nat) (acc v : Nat) (r : List Nat), (∀ x ∈ b, x < 256) → (acc ≠ 0 ∨ b.getD 0 0 ≠ 128) → rdGo acc b = some (v, r) → (glo acc).reverse ++ b = fig v ++ r ∧ v ≤ 4294967295
  | [], _, _, _, _, _, h => by simp [rdGo] at h
  | x :: s, acc, v, r, hb, h0, h => by
    have hx := hb x (by simp)
    simp only [rdGo] at h
    split at h
    · cases h
    · rename_i hm
      split at h
      · rename_i hx1
        injection h with h; injection h with h1 h2
        subst h1 h2
        refine ⟨?_, by omega⟩
        simp only [fig]
        rw [show (128 * acc + x % 128) / 128 = acc by omega, show (128 * acc + x % 128) % 128 = x by omega]
        simp
      · rename_i hx1
        have hne : 128 * acc + x % 128 ≠ 0 := by
          rcases h0 with h0 | h0
          · omega
          · simp at h0; omega
        obtain ⟨e, hv⟩ := rdGo_back s _ v r (fun y hy => hb y (by simp [hy])) (.inl hne) h
        refine ⟨?_, hv⟩
        rw [← e, glo_pos hne, show (128 * acc + x % 128) / 128 = acc by omega, show 128 + (128 * acc + x % 128) % 128 = x by omega]
        simp
theorem rdGo_glo : ∀ (n u : Nat), u ≤ n → u ≤ 4294967295 → ∀ s, rdGo 0 ((glo u).reverse ++ s) = rdGo u s
  | 0, u, h, _, s => by
    obtain rfl : u = 0 := by omega
    rw [glo_zero]; rfl
  | n + 1, u, h, hm, s => by
    by_cases h0 : u = 0
    · subst h0; rw [glo_zero]; rfl
    · rw [glo_pos h0, List.reverse_cons, List.append_assoc, rdGo_glo n (u / 128) (by omega) (by omega)]
      show rdGo (u / 128) ((128 + u % 128) :: s) = _
      simp only [rdGo]
      rw [show 128 * (u / 128) + (128 + u % 128) % 128 = u by omega, if_neg (by omega), if_neg (by omega)]
theorem glo_head : ∀ (n u : Nat), u ≤ n → u ≠ 0 → ∀ s, ((glo u).reverse ++ s).getD 0 0 ≠ 128
  | 0, u, h, h0, s => by omega
  | n + 1, u, h, h0, s => by
    rw [glo_pos h0, List.reverse_cons, List.append_assoc]
    by_cases h1 : u / 128 = 0
    · rw [h1, glo_zero]; simp; omega
    · exact glo_head n (u / 128) (by omega) h1 _
theorem rdFig_fig {v : Nat} (h : v ≤ 4294967295) (r : List Nat) : rdFig (fig v ++ r) = some (v, r) := by
  unfold rdFig
  have hh : (fig v ++ r).getD 0 0 ≠ 128 := by
    simp only [fig, List.append_assoc]
    by_cases h1 : v / 128 = 0
    · rw [h1, glo_zero]; simp; omega
    · exact glo_head _ _ (Nat.le_refl _) h1 _
  rw [if_neg hh]
  simp only [fig, List.append_assoc]
  rw [rdGo_glo _ _ (Nat.le_refl _) (by omega)]
  show rdGo (v / 128) (v % 128 :: r) = _
  simp only [rdGo]
  rw [show 128 * (v / 128) + v % 128 % 128 = v by omega, if_neg (by omega), if_pos (by omega)]
theorem rdFig_back {b : List Nat} {v : Nat} {r : List Nat} (hb : ∀ x ∈ b, x < 256) (h : rdFig b = some (v, r)) : b = fig v ++ r ∧ v ≤ 4294967295 := by
  unfold rdFig at h
  split at h
  · cases h
  · rename_i h0
    have := rdGo_back b 0 v r hb (.inr h0) h
    rwa [glo_zero] at this
/-- so many figures at the 4294967295, and what is left -/
def rdL : Nat → List Nat → Option (List Nat × List Nat)
  | 0, b => some ([], b)
  | _ + 1, [] => some ([], [])
  | n + 1, x :: b => match rdFig (x :: b) with
    | none => none
    | some (v, r) => match rdL n r with
      | none => none
      | some (l, s) => some (v :: l, s)
def rdFs (b : List Nat) : Option (List Nat) := match rdL 19 b with
  | some (l, s) => if l ≠ [] ∧ s = [] then some l else none
  | none => none
def figs (l : List Nat) : List Nat := l.flatMap fig
theorem figs_cons (v : Nat) (l : List Nat) : figs (v :: l) = fig v ++ figs l := rfl
theorem figs_lt (l : List Nat) : ∀ x ∈ figs l, x < 256 := by
  intro x hx
  obtain ⟨v, _, hv⟩ := List.mem_flatMap.1 hx
  exact fig_lt v x hv
theorem rdL_back : ∀ (n : Nat) (b l s : List Nat), (∀ x ∈ b, x < 256) → rdL n b = some (l, s) → b = figs l ++ s ∧ l.length ≤ n ∧ ∀ v ∈ l, v ≤ 4294967295
  | 0, b, l, s, _, h => by simp [rdL] at h; obtain ⟨rfl, rfl⟩ := h; exact ⟨rfl, Nat.le_refl _, by simp⟩
  | n + 1, [], l, s, _, h => by simp [rdL] at h; obtain ⟨rfl, rfl⟩ := h; exact ⟨rfl, Nat.zero_le _, by simp⟩
  | n + 1, x :: b, l, s, hb, h => by
    simp only [rdL] at h
    cases h1 : rdFig (x :: b) with
    | none => rw [h1] at h; cases h
    | some p =>
      obtain ⟨v, r⟩ := p
      rw [h1] at h
      simp only at h
      obtain ⟨e1, hv⟩ := rdFig_back hb h1
      cases h2 : rdL n r with
      | none => rw [h2] at h; cases h
      | some q =>
        obtain ⟨l', s'⟩ := q
        rw [h2] at h
        injection h with h; injection h with h3 h4
        subst h3 h4
        obtain ⟨e2, hl, ha⟩ := rdL_back n r l' s' (fun y hy => hb y (by rw [e1]; simp [hy])) h2
        refine ⟨by rw [e1, e2, figs_cons, List.append_assoc], by simp; exact hl, ?_⟩
        intro u hu
        rcases List.mem_cons.1 hu with rfl | hu
        · exact hv
        · exact ha u hu
theorem rdL_figs : ∀ (n : Nat) (l : List Nat), l.length ≤ n → (∀ v ∈ l, v ≤ 4294967295) → rdL n (figs l) = some (l, [])
  | 0, l, h, _ => by rw [List.eq_nil_of_length_eq_zero (by omega : l.length = 0)]; rfl
  | n + 1, [], _, _ => rfl
  | n + 1, v :: l, h, ha => by
    have h1 := rdFig_fig (ha v (by simp)) (figs l)
    have h2 := rdL_figs n l (by simpa using h) (fun u hu => ha u (by simp [hu]))
    rw [figs_cons]
    cases he : fig v ++ figs l with
    | nil => exact absurd (List.append_eq_nil_iff.1 he).1 (fig_ne v)
    | cons x b =>
      rw [he] at h1
      simp only [rdL, h1, h2]
theorem rdFs_iff {b F : List Nat} (hb : ∀ x ∈ b, x < 256) : rdFs b = some F ↔ F ≠ [] ∧ F.length ≤ 19 ∧ (∀ v ∈ F, v ≤ 4294967295) ∧ b = figs F := by
  constructor
  · intro h
    unfold rdFs at h
    cases h1 : rdL 19 b with
    | none => rw [h1] at h; cases h
    | some p =>
      obtain ⟨l, s⟩ := p
      rw [h1] at h
      simp only at h
      split at h
      · rename_i hc
        injection h with h
        subst h
        obtain ⟨e, hl, ha⟩ := rdL_back 19 b l s hb h1
        rw [hc.2, List.append_nil] at e
        exact ⟨hc.1, hl, ha, e⟩
      · cases h
  · rintro ⟨h1, h2, h3, rfl⟩
    unfold rdFs
    rw [rdL_figs 19 F h2 h3]
    simp [h1]
/-- is a list a name? -/
def oidOk (l : List Nat) : Bool := decide (2 ≤ l.length ∧ l.length ≤ 20 ∧ l.getD 0 0 ≤ 2 ∧ (l.getD 0 0 = 2 ∨ l.getD 1 0 < 40) ∧ 40 * l.getD 0 0 + l.getD 1 0 ≤ 4294967295 ∧ ∀ x ∈ l.drop 2, x ≤ 4294967295)
/-- a name's figures -/
def fl (l : List Nat) : List Nat := (40 * l.getD 0 0 + l.getD 1 0) :: l.drop 2
/-- the name of figures -/
def unf (F : List Nat) : List Nat := min (F.getD 0 0 / 40) 2 :: (F.getD 0 0 - 40 * min (F.getD 0 0 / 40) 2) :: F.drop 1
theorem oidOk_fl {l : List Nat} (h : oidOk l = true) : fl l ≠ [] ∧ (fl l).length ≤ 19 ∧ (∀ v ∈ fl l, v ≤ 4294967295) ∧ unf (fl l) = l := by
  obtain ⟨h1, h2, h3, h4, h5, h6⟩ := of_decide_eq_true h
  refine ⟨by simp [fl], by simp [fl]; omega, ?_, ?_⟩
  · intro v hv
    rcases List.mem_cons.1 hv with rfl | hv
    · exact h5
    · exact h6 v hv
  · match l, h1, h3, h4, h5 with
    | x :: y :: r, _, h3, h4, h5 =>
      simp [fl, unf] at h3 h4 h5 ⊢
      omega
theorem unf_ok {F : List Nat} (h1 : F ≠ []) (h2 : F.length ≤ 19) (h3 : ∀ v ∈ F, v ≤ 4294967295) : oidOk (unf F) = true ∧ fl (unf F) = F := by
  match F, h1, h2, h3 with
  | f :: r, _, h2, h3 =>
    have hf := h3 f (by simp)
    have e : 40 * min (f / 40) 2 + (f - 40 * min (f / 40) 2) = f := by omega
    refine ⟨decide_eq_true ⟨by simp [unf], by simp [unf] at h2 ⊢; omega, by simp [unf]; omega, ?_, ?_, ?_⟩, ?_⟩
    · simp only [unf, List.getD_cons_zero, List.getD_cons_succ]; omega
    · simp only [unf, List.getD_cons_zero, List.getD_cons_succ]; omega
    · intro x hx; exact h3 x (by simp [unf] at hx; simp [hx])
    · simp only [unf, fl, List.getD_cons_zero, List.getD_cons_succ]; rw [e]; rfl
/-- OID: a name, or an error -/
def oidE (t : Nat) (b : List Nat) (k : Tr) : Except Nat (List Nat) := if t ≠ 6 then .error 123 else if k.len ≠ 0 then .error 127 else match rdFs b with
  | none => .error 127
  | some F => .ok (unf F)
/-- OfOID: a body, or an error -/
def ofE (l : List Nat) : Except Nat (List Nat) := if oidOk l then .ok (figs (fl l)) else .error 127
theorem oidE_of {l : List Nat} (h : oidOk l = true) : oidE 6 (figs (fl l)) .nil = .ok l := by
  obtain ⟨h1, h2, h3, h4⟩ := oidOk_fl h
  have := (rdFs_iff (figs_lt (fl l))).2 ⟨h1, h2, h3, rfl⟩
  simp only [oidE]
  rw [if_neg (by simp), if_neg (by simp [Tr.len]), this, ← h4]
  simp [h4]
theorem oidE_ok {t : Nat} {b : List Nat} {k : Tr} {l : List Nat} (hb : ∀ x ∈ b, x < 256) (h : oidE t b k = .ok l) : t = 6 ∧ k = .nil ∧ oidOk l = true ∧ b = figs (fl l) := by
  unfold oidE at h
  split at h
  · cases h
  · rename_i ht
    split at h
    · cases h
    · rename_i hk
      cases hr : rdFs b with
      | none => rw [hr] at h; cases h
      | some F =>
        rw [hr] at h
        injection h with h
        obtain ⟨h1, h2, h3, h4⟩ := (rdFs_iff hb).1 hr
        obtain ⟨g1, g2⟩ := unf_ok h1 h2 h3
        refine ⟨by omega, Tr.len_zero (by omega), by rw [← h]; exact g1, by rw [← h, g2]; exact h4⟩
/-- the document's loose reading: the figure so far, the name so far -/
def lo : Nat → List Nat → List Nat → Option (List Nat)
  | _, l, [] => some l
  | v, l, x :: r => if 4294967295 < v then none else if 128 ≤ x then lo (128 * v + x % 128) l r
    else lo 0 (if l = [] then [min ((128 * v + x % 128) / 40) 2, (128 * v + x % 128) - 40 * min ((128 * v + x % 128) / 40) 2] else l ++ [128 * v + x % 128]) r
theorem lo_glo : ∀ (n u : Nat), u ≤ n → u ≤ 4294967295 → ∀ l s, lo 0 l ((glo u).reverse ++ s) = lo u l s
  | 0, u, h, _, l, s => by
    obtain rfl : u = 0 := by omega
    rw [glo_zero]; rfl
  | n + 1, u, h, hm, l, s => by
    by_cases h0 : u = 0
    · subst h0; rw [glo_zero]; rfl
    · rw [glo_pos h0, List.reverse_cons, List.append_assoc, lo_glo n (u / 128) (by omega) (by omega)]
      show lo (u / 128) l ((128 + u % 128) :: s) = _
      simp only [lo]
      rw [show 128 * (u / 128) + (128 + u % 128) % 128 = u by omega, if_neg (by omega), if_pos (by omega)]
theorem lo_fig {v : Nat} (h : v ≤ 4294967295) (l s : List Nat) : lo 0 l (fig v ++ s) = lo 0 (if l = [] then [min (v / 40) 2, v - 40 * min (v / 40) 2] else l ++ [v]) s := by
  simp only [fig, List.append_assoc]
  rw [lo_glo _ _ (Nat.le_refl _) (by omega)]
  show lo (v / 128) l (v % 128 :: s) = _
  simp only [lo]
  rw [show 128 * (v / 128) + v % 128 % 128 = v by omega, if_neg (by omega), if_neg (by omega)]
theorem lo_figs : ∀ (F l : List Nat), l ≠ [] → (∀ v ∈ F, v ≤ 4294967295) → lo 0 l (figs F) = some (l ++ F)
  | [], l, _, _ => by simp [figs, lo]
  | v :: F, l, hl, ha => by
    rw [figs_cons, lo_fig (ha v (by simp)), if_neg hl, lo_figs F _ (by simp) (fun u hu => ha u (by simp [hu]))]
    simp
theorem lo_all {F : List Nat} (h1 : F ≠ []) (ha : ∀ v ∈ F, v ≤ 4294967295) : lo 0 [] (figs F) = some (unf F) := by
  match F, h1, ha with
  | f :: r, _, ha =>
    rw [figs_cons, lo_fig (ha f (by simp)), if_pos rfl, lo_figs r _ (by simp) (fun u hu => ha u (by simp [hu]))]
    rfl
/-- what the document makes of its loose reading -/
theorem lo_oid {b : List Nat} {k : Tr} (hb : ∀ x ∈ b, x < 256) : oidE 6 b k = match lo 0 [] b with
    | none => .error 127
    | some l => if oidOk l = true ∧ figs (fl l) = b ∧ k = .nil then .ok l else .error 127 := by
  by_cases hk : k.len = 0
  · obtain rfl := Tr.len_zero hk
    cases hr : rdFs b with
    | some F =>
      obtain ⟨h1, h2, h3, h4⟩ := (rdFs_iff hb).1 hr
      obtain ⟨g1, g2⟩ := unf_ok h1 h2 h3
      have hl := lo_all h1 h3
      rw [← h4] at hl
      have e : oidE 6 b .nil = .ok (unf F) := by
        simp only [oidE]; rw [if_neg (by simp), if_neg (by simp [Tr.len]), hr]
      rw [e, hl]
      simp only
      rw [if_pos ⟨g1, by rw [g2]; exact h4.symm, by first | rfl | trivial⟩]
    | none =>
      have e : oidE 6 b .nil = .error 127 := by
        simp only [oidE]; rw [if_neg (by simp), if_neg (by simp [Tr.len]), hr]
      rw [e]
      cases hl : lo 0 [] b with
      | none => rfl
      | some l =>
        simp only
        rw [if_neg]
        rintro ⟨g1, g2, _⟩
        obtain ⟨q1, q2, q3, q4⟩ := oidOk_fl g1
        have := (rdFs_iff hb).2 ⟨q1, q2, q3, g2.symm⟩
        rw [hr] at this; cases this
  · have e : oidE 6 b k = .error 127 := by
      simp only [oidE]; rw [if_neg (by simp), if_pos hk]
    rw [e]
    cases hl : lo 0 [] b with
    | none => rfl
    | some l =>
      simp only
      rw [if_neg]
      rintro ⟨_, _, rfl⟩
      exact hk rfl
end Go.Proofs.Ytbabpmncdphnjaa
