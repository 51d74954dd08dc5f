/- PLAIN: what is written is read, what is read is written: each item has one form. No model. -/
import Derived.Test.YtbabpmncdphnjaaIt
namespace Go.Proofs.Ytbabpmncdphnjaa
set_option linter.unusedVariables false
set_option maxRecDepth 100000

theorem Tr.enc_app : ∀ A B : Tr, (A.app B).enc = A.enc ++ B.enc
  | .nil, _ => rfl
  | .node t b k r, B => by simp only [Tr.app, Tr.enc, Tr.enc_app r B, List.append_assoc]
theorem Tr.err_app : ∀ (A B : Tr) (d : Nat), (A.app B).err d = if A.err d ≠ 0 then A.err d else B.err d
  | .nil, _, _ => by simp [Tr.app, Tr.err]
  | .node t b k r, B, d => by
    simp only [Tr.app, Tr.err, Tr.err_app r B d]
    repeat' split
    all_goals first | rfl | (exfalso; omega) | simp_all
theorem lenB_len (n : Nat) : 1 ≤ (lenB n).length ∧ (lenB n).length ≤ 3 := by
  unfold lenB; split
  · simp
  · split <;> simp
theorem lenB_lt (n : Nat) : ∀ x ∈ lenB n, x < 256 := by
  unfold lenB; split
  · intro x hx; simp at hx; omega
  · split
    · intro x hx; simp at hx; omega
    · intro x hx; simp at hx; omega
theorem lenE_lenB (n : Nat) (m : List Nat) (hn : n < 65536) : lenE (lenB n ++ m) = .ok (n, m) := by
  unfold lenB
  split
  · rename_i h; simp [lenE, h]
  · rename_i h
    split
    · rename_i h2
      have e : beV [n] = n := by simp [beV]
      have : lenE (129 :: n :: m) = .ok (n, m) := by
        simp only [lenE]
        rw [if_neg (by omega), if_neg (by omega), if_neg (by simp), if_neg (by simp [e]; omega)]
        simp [e]
      simpa using this
    · rename_i h2
      have e : beV [n / 256 % 256, n % 256] = n := by simp [beV]; omega
      have : lenE (130 :: (n / 256 % 256) :: (n % 256) :: m) = .ok (n, m) := by
        simp only [lenE]
        rw [if_neg (by omega), if_neg (by omega), if_neg (by simp), if_neg (by simp [e]; omega)]
        simp [e]
      simpa using this
theorem lenE_back {y : List Nat} {n : Nat} {c : List Nat} (h : lenE y = .ok (n, c)) (h8 : ∀ x ∈ y, x < 256) (hn : n < 65536) : y = lenB n ++ c := by
  cases y with
  | nil => simp [lenE] at h
  | cons f b =>
    simp only [lenE] at h
    split at h
    · rename_i h1
      simp at h; obtain ⟨rfl, rfl⟩ := h
      simp [lenB, h1]
    · rename_i h1
      split at h
      · simp at h
      · rename_i h2
        split at h
        · simp at h
        · rename_i h3
          split at h
          · simp at h
          · rename_i h4
            simp at h; obtain ⟨h5, rfl⟩ := h
            have hf : f = 129 ∨ f = 130 ∨ f = 131 := by omega
            rcases hf with rfl | rfl | rfl
            · match b, h3 with
              | x :: r, _ =>
                have hx : x < 256 := h8 x (by simp)
                have e : beV [x] = x := by simp [beV]
                simp [e] at h4 h5
                subst h5
                unfold lenB; rw [if_neg (by omega), if_pos hx]; simp
              | [], h3 => simp at h3
            · match b, h3 with
              | x :: z :: r, _ =>
                have hx : x < 256 := h8 x (by simp)
                have hz : z < 256 := h8 z (by simp)
                have e : beV [x, z] = 256 * x + z := by simp [beV]
                simp [e] at h4 h5
                subst h5
                unfold lenB
                rw [if_neg (by omega), if_neg (by omega), show (256 * x + z) / 256 % 256 = x by omega, show (256 * x + z) % 256 = z by omega]; simp
              | [x], h3 => simp at h3
              | [], h3 => simp at h3
            · match b, h3 with
              | x :: z :: v :: r, _ =>
                have e : beV [x, z, v] = 256 * (256 * x + z) + v := by simp [beV]
                simp [e] at h4 h5
                omega
              | [x, z], h3 => simp at h3
              | [x], h3 => simp at h3
              | [], h3 => simp at h3
/-- one item's bytes -/
def encI (t : Nat) (b : List Nat) (k : Tr) : List Nat := t :: lenB (b.length + k.enc.length) ++ (b ++ k.enc)
theorem enc_node (t : Nat) (b : List Nat) (k r : Tr) : (Tr.node t b k r).enc = encI t b k ++ r.enc := rfl
theorem enc_one (t : Nat) (b : List Nat) (k : Tr) : (Tr.node t b k .nil).enc = encI t b k := by simp [Tr.enc, encI]
/-- what is wrong with one item -/
def errI (t : Nat) (b : List Nat) (k : Tr) (d : Nat) : Nat := (Tr.node t b k .nil).err d
theorem err_node (t : Nat) (b : List Nat) (k r : Tr) (d : Nat) : (Tr.node t b k r).err d = if errI t b k d ≠ 0 then errI t b k d else r.err d := by
  have := Tr.err_app (.node t b k .nil) r d
  unfold errI; exact this
theorem errI_zero {t : Nat} {b : List Nat} {k : Tr} {d : Nat} (h : errI t b k d = 0) : ¬ 16 < d ∧ ¬ t % 32 = 31 ∧ (t / 32 % 2 = 1 → b = []) ∧ (¬ t / 32 % 2 = 1 → k = .nil) ∧ k.err (d + 1) = 0 := by
  unfold errI at h
  simp only [Tr.err] at h
  split at h
  · omega
  · split at h
    · omega
    · split at h
      · omega
      · rename_i h1 h2 h3
        refine ⟨h1, h2, fun h => ?_, fun h => ?_, ?_⟩
        · exact Classical.byContradiction fun hb => h3 (.inl ⟨h, hb⟩)
        · exact Classical.byContradiction fun hk => h3 (.inr ⟨h, hk⟩)
        · split at h
          · rename_i h4; omega
          · rename_i h4; omega
theorem errI_of {t : Nat} {b : List Nat} {k : Tr} {d : Nat} (h1 : ¬ 16 < d) (h2 : ¬ t % 32 = 31) (h3 : t / 32 % 2 = 1 → b = []) (h4 : ¬ t / 32 % 2 = 1 → k = .nil) (h5 : k.err (d + 1) = 0) : errI t b k d = 0 := by
  unfold errI
  simp only [Tr.err]
  rw [if_neg h1, if_neg h2, if_neg, if_neg (by omega)]
  rintro (⟨a, c⟩ | ⟨a, c⟩)
  · exact c (h3 a)
  · exact c (h4 a)
theorem errI_deep {t : Nat} {b : List Nat} {k : Tr} {d : Nat} (h : 16 < d) : errI t b k d = 125 := by simp [errI, Tr.err, h]
theorem errI_tag {t : Nat} {b : List Nat} {k : Tr} {d : Nat} (h1 : ¬ 16 < d) (h : t % 32 = 31) : errI t b k d = 123 := by simp [errI, Tr.err, h, h1]
theorem errI_val {t : Nat} {b : List Nat} {k : Tr} {d : Nat} (h1 : ¬ 16 < d) (h2 : ¬ t % 32 = 31) (h : t / 32 % 2 = 1 ∧ b ≠ [] ∨ t / 32 % 2 ≠ 1 ∧ k ≠ .nil) : errI t b k d = 127 := by
  unfold errI; simp only [Tr.err]; rw [if_neg h1, if_neg h2, if_pos h]
theorem errI_kids {t : Nat} {b : List Nat} {k : Tr} {d : Nat} (h1 : ¬ 16 < d) (h2 : ¬ t % 32 = 31) (h : ¬ (t / 32 % 2 = 1 ∧ b ≠ [] ∨ t / 32 % 2 ≠ 1 ∧ k ≠ .nil)) : errI t b k d = k.err (d + 1) := by
  unfold errI; simp only [Tr.err]; rw [if_neg h1, if_neg h2, if_neg h]
  split
  · rfl
  · omega
/-- what is written is read: one item, over what is known of its kids -/
theorem rd_enc {t : Nat} {b : List Nat} {k : Tr} {d f : Nat} (m : List Nat) (he : errI t b k d = 0) (hl : (encI t b k).length ≤ 65536) (hk : t / 32 % 2 = 1 → rdA f (d + 1) k.enc = .ok k) : rd (f + 1) d (encI t b k ++ m) = .ok (t, b, k, m) := by
  obtain ⟨h1, h2, h3, h4, h5⟩ := errI_zero he
  have e : encI t b k ++ m = t :: (lenB (b.length + k.enc.length) ++ (b ++ k.enc ++ m)) := by simp [encI]
  have hlen : b.length + k.enc.length < 65536 := by
    have := (lenB_len (b.length + k.enc.length)).1
    simp only [encI, List.length_append, List.length_cons] at hl; omega
  rw [e]
  have hL := lenE_lenB (b.length + k.enc.length) (b ++ k.enc ++ m) hlen
  simp only [rd, if_neg h1, if_neg h2, hL]
  rw [if_neg (by simp)]
  by_cases ht : t / 32 % 2 = 1
  · obtain rfl := h3 ht
    rw [if_pos ht]
    simp [hk ht]
  · obtain rfl := h4 ht
    rw [if_neg ht]
    simp [Tr.enc]
theorem rdA_enc : ∀ (T : Tr) (d f : Nat), T.err d = 0 → T.enc.length ≤ 65536 → T.enc.length + 2 ≤ f → rdA f d T.enc = .ok T
  | .nil, d, f, _, _, _ => rdA_nil f d
  | .node t b k r, d, f, he, hl, hf => by
    rw [err_node] at he
    have he1 : errI t b k d = 0 := by
      by_cases h : errI t b k d = 0
      · exact h
      · rw [if_pos h] at he; exact he
    rw [if_neg (by omega)] at he
    rw [enc_node] at hl hf ⊢
    simp only [List.length_append] at hl hf
    obtain ⟨h1, h2, h3, h4, h5⟩ := errI_zero he1
    have hkl : k.enc.length + 2 ≤ (encI t b k).length := by
      have := (lenB_len (b.length + k.enc.length)).1
      simp only [encI, List.length_append, List.length_cons]; omega
    obtain ⟨f, rfl⟩ : ∃ g, f = g + 2 := ⟨f - 2, by omega⟩
    have hrd := rd_enc (f := f) r.enc he1 (by omega) (fun _ => rdA_enc k (d + 1) f h5 (by omega) (by omega))
    have hrA := rdA_enc r d (f + 1) he (by omega) (by omega)
    obtain ⟨x, y, hxy⟩ : ∃ x y, encI t b k ++ r.enc = x :: y := ⟨t, _, by simp [encI]; rfl⟩
    rw [hxy] at hrd ⊢
    have h9 := rdA_ok .nil hrd
    rw [comb_nil] at h9
    rw [h9, hrA]
    rfl
/-- what is read is written -/
theorem rd_back : ∀ (f d : Nat) (l : List Nat), l.length ≤ 65536 → (∀ x ∈ l, x < 256) →
    (∀ t b k m, l.length + 1 ≤ f → rd f d l = .ok (t, b, k, m) → l = encI t b k ++ m ∧ errI t b k d = 0) ∧ (∀ T, l.length + 2 ≤ f → rdA f d l = .ok T → l = T.enc ∧ T.err d = 0) := by
  intro f
  induction f with
  | zero => exact fun d l hl h8 => ⟨fun t b k m hf h => by omega, fun T hf h => by omega⟩
  | succ f ih =>
    intro d l hl h8
    refine ⟨fun t b k m hf h => ?_, fun T hf h => ?_⟩
    · cases l with
      | nil => simp only [rd] at h; split at h <;> simp at h
      | cons x y =>
        simp only [rd] at h
        split at h
        · simp at h
        · rename_i h1
          split at h
          · simp at h
          · rename_i h2
            cases hL : lenE y with
            | error e => rw [hL] at h; simp at h
            | ok p =>
              obtain ⟨n, c⟩ := p
              rw [hL] at h
              have hcl := lenE_some hL
              simp only at h
              split at h
              · simp at h
              · rename_i h3
                simp at hl
                have hy := lenE_back hL (fun z hz => h8 z (by simp [hz])) (by omega)
                have hc8 : ∀ z ∈ c, z < 256 := fun z hz => h8 z (by rw [hy]; simp [hz])
                have htd : c = c.take n ++ c.drop n := (List.take_append_drop n c).symm
                have htl : (c.take n).length = n := by simp; omega
                split at h
                · rename_i h4
                  cases hR : rdA f (d + 1) (c.take n) with
                  | error e => rw [hR] at h; simp at h
                  | ok T =>
                    rw [hR] at h
                    simp at h
                    obtain ⟨rfl, rfl, rfl, rfl⟩ := h
                    simp at hf
                    obtain ⟨e3, e4⟩ := (ih (d + 1) (c.take n) (by omega) (fun z hz => hc8 z (List.mem_of_mem_take hz))).2 T (by omega) hR
                    refine ⟨?_, errI_of h1 h2 (fun _ => rfl) (fun h => absurd h4 h) e4⟩
                    rw [hy]
                    simp only [encI, ← e3, List.length_nil, Nat.zero_add, htl, List.nil_append, List.cons_append]
                    rw [List.append_assoc, ← htd]
                · rename_i h4
                  simp at h
                  obtain ⟨rfl, rfl, rfl, rfl⟩ := h
                  refine ⟨?_, errI_of h1 h2 (fun h => absurd h h4) (fun _ => rfl) rfl⟩
                  rw [hy]
                  simp only [encI, Tr.enc, List.length_nil, Nat.add_zero, htl, List.append_nil, List.cons_append]
                  rw [List.append_assoc, ← htd]
    · cases l with
      | nil => simp [rdA] at h; subst h; exact ⟨rfl, rfl⟩
      | cons x y =>
        simp only [rdA] at h
        cases hR : rd f d (x :: y) with
        | error e => rw [hR] at h; simp at h
        | ok p =>
          obtain ⟨t, b, k, m⟩ := p
          rw [hR] at h
          have hm := rd_len _ _ _ hR
          obtain ⟨e1, e2⟩ := (ih d (x :: y) hl h8).1 t b k m (by omega) hR
          simp only at h
          cases hA : rdA f d m with
          | error e => rw [hA] at h; simp at h
          | ok r =>
            rw [hA] at h
            simp at h
            subst h
            obtain ⟨e3, e4⟩ := (ih d m (by omega) (fun z hz => h8 z (by rw [e1]; simp [hz]))).2 r (by omega) hA
            refine ⟨by rw [enc_node, ← e3]; exact e1, ?_⟩
            rw [err_node, if_neg (by omega)]; exact e4
/-- Encode: an item's bytes, or an error -/
def encE (t : Nat) (b : List Nat) (k : Tr) : Except Nat (List Nat) := if errI t b k 1 ≠ 0 then .error (errI t b k 1) else if 65536 < (encI t b k).length then .error 121 else .ok (encI t b k)
theorem encE_ok {t : Nat} {b : List Nat} {k : Tr} {c : List Nat} (h : encE t b k = .ok c) : errI t b k 1 = 0 ∧ c = encI t b k ∧ c.length ≤ 65536 := by
  unfold encE at h
  split at h
  · simp at h
  · split at h
    · simp at h
    · simp at h; subst h; exact ⟨by omega, rfl, by omega⟩
theorem encE_err {t : Nat} {b : List Nat} {k : Tr} (h : errI t b k 1 ≠ 0) : encE t b k = .error (errI t b k 1) := by unfold encE; rw [if_pos h]
theorem encE_long {t : Nat} {b : List Nat} {k : Tr} (h : errI t b k 1 = 0) (h2 : 65536 < (encI t b k).length) : encE t b k = .error 121 := by unfold encE; rw [if_neg (by omega), if_pos h2]
theorem encE_good {t : Nat} {b : List Nat} {k : Tr} (h : errI t b k 1 = 0) (h2 : ¬ 65536 < (encI t b k).length) : encE t b k = .ok (encI t b k) := by unfold encE; rw [if_neg (by omega), if_neg h2]
theorem encE_err0 {t : Nat} {b : List Nat} {k : Tr} {x : Nat} (h : encE t b k = .error x) : x ≠ 0 := by
  unfold encE at h
  split at h
  · simp at h; omega
  · split at h
    · simp at h; omega
    · simp at h
theorem eqzS' {x : Nat} (h : x ≠ 0) : ((x : Int) == 0) = false := by simp; omega
theorem nzS {x : Nat} (h : x ≠ 0) : ((x : Int) != 0) = true := by simp; omega
theorem encI_pos (t : Nat) (b : List Nat) (k : Tr) : 0 < (encI t b k).length := by simp [encI]
/-- what is written, and bytes behind it -/
theorem dec_enc {t : Nat} {b : List Nat} {k : Tr} {c : List Nat} (h : encE t b k = .ok c) (m : List Nat) : rd ((c ++ m).length + 1) 1 (c ++ m) = .ok (t, b, k, m) := by
  obtain ⟨h1, rfl, h3⟩ := encE_ok h
  have h5 := (errI_zero h1).2.2.2.2
  refine rd_enc m h1 h3 (fun _ => rdA_enc k 2 _ h5 ?_ ?_)
  · simp only [encI, List.length_append, List.length_cons] at h3; omega
  · have := (lenB_len (b.length + k.enc.length)).1
    simp only [encI, List.length_append, List.length_cons]; omega
/-- what is written is read as the same item -/
theorem dec_back {t : Nat} {b : List Nat} {k : Tr} {c : List Nat} (h : encE t b k = .ok c) : decE c = .ok (t, b, k) := by
  have h1 := dec_enc h []
  rw [List.append_nil] at h1
  have := (encE_ok h).2.2
  simp only [decE, h1]
  rw [if_neg (by omega)]; rfl
/-- what is read is written as the same bytes -/
theorem enc_back {l : List Nat} (h8 : ∀ x ∈ l, x < 256) {t : Nat} {b : List Nat} {k : Tr} (h : decE l = .ok (t, b, k)) : encE t b k = .ok l := by
  unfold decE at h
  split at h
  · simp at h
  · rename_i h1
    cases hR : rd (l.length + 1) 1 l with
    | error e => rw [hR] at h; simp at h
    | ok p =>
      obtain ⟨t', b', k', m⟩ := p
      rw [hR] at h
      simp only at h
      split at h
      · rename_i hm
        simp at h
        obtain ⟨rfl, rfl, rfl⟩ := h
        subst hm
        obtain ⟨e1, e2⟩ := (rd_back _ 1 l (by omega) h8).1 t' b' k' [] (Nat.le_refl _) hR
        rw [List.append_nil] at e1
        unfold encE
        rw [if_neg (by omega), if_neg (by rw [← e1]; omega), ← e1]
      · simp at h
/-- bytes that are cut off are refused -/
theorem dec_cut {t : Nat} {b : List Nat} {k : Tr} {c : List Nat} (h8 : ∀ x ∈ c, x < 256) (h : encE t b k = .ok c) (n : Nat) (hn : n < c.length) : ∃ e, decE (c.take n) = .error e := by
  cases hD : decE (c.take n) with
  | error e => exact ⟨e, rfl⟩
  | ok p =>
    exfalso
    obtain ⟨t', b', k'⟩ := p
    have h1 := enc_back (fun x hx => h8 x (List.mem_of_mem_take hx)) hD
    have h2 := dec_enc h1 (c.drop n)
    rw [List.take_append_drop] at h2
    have h3 := dec_enc h []
    rw [List.append_nil] at h3
    rw [h2] at h3
    simp at h3
    omega
/-- bytes behind an item are refused -/
theorem dec_behind {t : Nat} {b : List Nat} {k : Tr} {c : List Nat} (h : encE t b k = .ok c) (m : List Nat) (hm : m ≠ []) : decE (c ++ m) = .error (if 65536 < (c ++ m).length then 121 else 126) := by
  have h1 := dec_enc h m
  simp only [decE, h1]
  split
  · rfl
  · first | rfl | rw [if_neg hm] | simp [hm]
theorem lenE_err {l : List Nat} {c : Nat} (h : lenE l = .error c) : c = 122 ∨ c = 124 := by
  cases l with
  | nil => simp [lenE] at h; omega
  | cons f b =>
    simp only [lenE] at h
    repeat' (split at h)
    all_goals first | (simp at h; done) | (simp at h; omega)
theorem rd_errs : ∀ (f d : Nat) (l : List Nat), (∀ c, l.length + 1 ≤ f → rd f d l = .error c → 122 ≤ c ∧ c ≤ 125) ∧ (∀ c, l.length + 2 ≤ f → rdA f d l = .error c → 122 ≤ c ∧ c ≤ 125) := by
  intro f
  induction f with
  | zero => exact fun d l => ⟨fun c h => by omega, fun c h => by omega⟩
  | succ f ih =>
    intro d l
    refine ⟨fun c hf h => ?_, fun c hf h => ?_⟩
    · cases l with
      | nil => simp only [rd] at h; split at h <;> (simp at h; omega)
      | cons x y =>
        simp only [rd] at h
        split at h
        · simp at h; omega
        · split at h
          · simp at h; omega
          · cases hL : lenE y with
            | error e =>
              rw [hL] at h; simp at h; subst h
              have := lenE_err hL; omega
            | ok p =>
              obtain ⟨n, z⟩ := p
              rw [hL] at h
              have hz := lenE_some hL
              simp only at h
              split at h
              · simp at h; omega
              · split at h
                · cases hR : rdA f (d + 1) (z.take n) with
                  | error e =>
                    rw [hR] at h; simp at h; subst h
                    simp at hf
                    exact (ih (d + 1) (z.take n)).2 e (by simp; omega) hR
                  | ok T => rw [hR] at h; simp at h
                · simp at h
    · cases l with
      | nil => simp [rdA] at h
      | cons x y =>
        simp only [rdA] at h
        cases hR : rd f d (x :: y) with
        | error e =>
          rw [hR] at h; simp at h; subst h
          exact (ih d (x :: y)).1 e (by omega) hR
        | ok p =>
          obtain ⟨t, b, k, m⟩ := p
          rw [hR] at h
          have hm := rd_len _ _ _ hR
          simp only at h
          cases hA : rdA f d m with
          | error e =>
            rw [hA] at h; simp at h; subst h
            exact (ih d m).2 e (by omega) hA
          | ok r => rw [hA] at h; simp at h
theorem dec_err0 {l : List Nat} {c : Nat} (h : decE l = .error c) : 121 ≤ c ∧ c ≤ 126 := by
  unfold decE at h
  split at h
  · simp at h; omega
  · cases hR : rd (l.length + 1) 1 l with
    | error e =>
      rw [hR] at h; simp at h; subst h
      have := (rd_errs _ 1 l).1 e (Nat.le_refl _) hR
      omega
    | ok p =>
      obtain ⟨t, b, k, m⟩ := p
      rw [hR] at h
      simp only at h
      split at h
      · simp at h
      · simp at h; omega
theorem err_le : ∀ (T : Tr) (d : Nat), T.err d ≤ 127
  | .nil, _ => by simp [Tr.err]
  | .node t b k r, d => by
    simp only [Tr.err]
    repeat' split
    all_goals first | omega | exact err_le k _ | exact err_le r _
@[irreducible] def capL (n : Nat) : Nat := min n 65537
theorem capL_le (n : Nat) : capL n ≤ 65537 := by unfold capL; omega
theorem capL_add (x y : Nat) : capL (capL x + capL y) = capL (x + y) := by unfold capL; omega
theorem capL_len (n : Nat) : capL (1 + (lenB (capL n)).length + capL n) = capL (1 + (lenB n).length + n) := by
  have h1 := lenB_len n
  have h2 := lenB_len (capL n)
  by_cases h : n ≤ 65537
  · have : capL n = n := by unfold capL; omega
    rw [this]
  · have : capL n = 65537 := by unfold capL; omega
    rw [this] at h2 ⊢
    unfold capL
    omega
theorem encI_length (t : Nat) (b : List Nat) (k : Tr) : (encI t b k).length = 1 + (lenB (b.length + k.enc.length)).length + (b.length + k.enc.length) := by
  simp only [encI, List.length_append, List.length_cons]; omega
end Go.Proofs.Ytbabpmncdphnjaa
