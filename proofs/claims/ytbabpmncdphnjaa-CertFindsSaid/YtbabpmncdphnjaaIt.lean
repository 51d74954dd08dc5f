/- PLAIN: items as forests; how many parts; their bytes, and how bytes are read. No model. -/
namespace Go.Proofs.Ytbabpmncdphnjaa
set_option linter.unusedVariables false
set_option maxRecDepth 100000

/-- a list of items: the first one's tag, body and kids, and the rest -/
inductive Tr where
  | nil
  | node (t : Nat) (b : List Nat) (k r : Tr)
  deriving DecidableEq

def Tr.len : Tr → Nat
  | .nil => 0
  | .node _ _ _ r => r.len + 1
def Tr.sz : Tr → Nat
  | .nil => 0
  | .node _ b k r => 1 + b.length + k.sz + r.sz
def Tr.app : Tr → Tr → Tr
  | .nil, s => s
  | .node t b k r, s => .node t b k (r.app s)
theorem Tr.app_nil : ∀ T : Tr, T.app .nil = T
  | .nil => rfl
  | .node t b k r => by simp [Tr.app, Tr.app_nil r]
theorem Tr.app_assoc : ∀ A B C : Tr, (A.app B).app C = A.app (B.app C)
  | .nil, _, _ => rfl
  | .node t b k r, B, C => by simp [Tr.app, Tr.app_assoc r B C]
theorem Tr.len_app : ∀ A B : Tr, (A.app B).len = A.len + B.len
  | .nil, _ => by simp [Tr.app, Tr.len]
  | .node t b k r, B => by simp [Tr.app, Tr.len, Tr.len_app r B]; omega
theorem Tr.sz_app : ∀ A B : Tr, (A.app B).sz = A.sz + B.sz
  | .nil, _ => by simp [Tr.app, Tr.sz]
  | .node t b k r, B => by simp [Tr.app, Tr.sz, Tr.sz_app r B]; omega
theorem Tr.len_sz : ∀ A : Tr, A.len ≤ A.sz
  | .nil => Nat.le_refl _
  | .node t b k r => by have := Tr.len_sz r; simp [Tr.len, Tr.sz]; omega
theorem Tr.len_zero {T : Tr} (h : T.len = 0) : T = .nil := by cases T with
  | nil => rfl
  | node => simp [Tr.len] at h
theorem Tr.len_pos {T : Tr} (h : 0 < T.len) : ∃ t b k r, T = .node t b k r := by cases T with
  | nil => simp [Tr.len] at h
  | node t b k r => exact ⟨t, b, k, r, rfl⟩

/-- the law's count, as its loop goes: so much so far, no more than most -/
def Tr.cnt : Tr → Nat → Nat → Nat
  | .nil, n, _ => n
  | .node _ b k r, n, m => if n ≤ m then r.cnt (n + k.cnt (1 + b.length) (m - n)) m else n
/-- all bodies are this long at the most -/
def Tr.low : Tr → Nat → Prop
  | .nil, _ => True
  | .node _ b k r, H => b.length ≤ H ∧ k.low H ∧ r.low H

theorem Tr.cnt_over : ∀ (T : Tr) (n m : Nat), m < n → T.cnt n m = n
  | .nil, _, _, _ => rfl
  | .node t b k r, n, m, h => by simp [Tr.cnt]; omega
theorem Tr.cnt_ge : ∀ (T : Tr) (n m : Nat), n ≤ T.cnt n m
  | .nil, n, _ => Nat.le_refl _
  | .node t b k r, n, m => by
    simp only [Tr.cnt]; split
    · exact Nat.le_trans (Nat.le_add_right _ _) (Tr.cnt_ge r _ m)
    · exact Nat.le_refl _
theorem Tr.cnt_le (H : Nat) : ∀ (T : Tr) (n m : Nat), T.low H → 1 ≤ n → n ≤ 1 + H + m * m → T.cnt n m ≤ 1 + H + m * m
  | .nil, _, _, _, _, h => h
  | .node t b k r, n, m, ⟨hb, hk, hr⟩, h1, h => by
    simp only [Tr.cnt]; split
    · rename_i hnm
      obtain ⟨j, rfl⟩ := Nat.exists_eq_add_of_le hnm
      have e : n + j - n = j := by omega
      rw [e]
      have h2 := Tr.cnt_le H k (1 + b.length) j hk (by omega) (by have := Nat.zero_le (j * j); omega)
      have h3 : n + (1 + H + j * j) ≤ 1 + H + (n + j) * (n + j) := by
        have a1 : (n + j) * (n + j) = n * n + n * j + (j * n + j * j) := by rw [Nat.add_mul, Nat.mul_add, Nat.mul_add]
        have a2 : n ≤ n * n := Nat.le_mul_of_pos_left n h1
        omega
      exact Tr.cnt_le H r _ _ hr (by omega) (by omega)
    · exact h
theorem Tr.cnt_sz : ∀ (T : Tr) (n m : Nat), T.cnt n m ≤ m → T.cnt n m = n + T.sz
  | .nil, _, _, _ => rfl
  | .node t b k r, n, m, h => by
    simp only [Tr.cnt] at h ⊢
    split at h
    · rename_i hnm
      rw [if_pos hnm]
      have h1 := Tr.cnt_sz r _ m h
      have h2 := Tr.cnt_sz k (1 + b.length) (m - n) (by omega)
      rw [h1, h2]; simp only [Tr.sz]; omega
    · omega
theorem Tr.low_of_sz : ∀ (T : Tr) (H : Nat), T.sz ≤ H → T.low H
  | .nil, _, _ => trivial
  | .node t b k r, H, h => by
    simp only [Tr.sz] at h
    exact ⟨by omega, Tr.low_of_sz k H (by omega), Tr.low_of_sz r H (by omega)⟩

theorem Tr.low_mid : ∀ {A : Tr} {t : Nat} {b : List Nat} {k r : Tr} {H : Nat}, (A.app (.node t b k r)).low H → b.length ≤ H ∧ k.low H
  | .nil, _, _, _, _, _, h => ⟨h.1, h.2.1⟩
  | .node _ _ _ A, _, _, _, _, _, h => Tr.low_mid (A := A) h.2.2
/-- a number's bytes, greatest first -/
def beV (l : List Nat) : Nat := l.foldl (fun v x => 256 * v + x) 0
theorem beV_snoc (l : List Nat) (x : Nat) : beV (l ++ [x]) = 256 * beV l + x := by simp [beV]
theorem beV_lt (l : List Nat) (h : ∀ x ∈ l, x < 256) : beV l < 256 ^ l.length := by
  suffices ∀ (l : List Nat) (v k : Nat), v < 256 ^ k → (∀ x ∈ l, x < 256) → l.foldl (fun v x => 256 * v + x) v < 256 ^ (k + l.length) by
    have := this l 0 0 (by simp) h; simpa [beV] using this
  intro l
  induction l with
  | nil => intro v k hv _; simpa using hv
  | cons a l ih =>
    intro v k hv ha
    have := ih (256 * v + a) (k + 1) (by have := ha a (by simp); rw [Nat.pow_succ]; omega) (fun x hx => ha x (by simp [hx]))
    simpa [Nat.add_assoc, Nat.add_comm 1] using this

/-- the length that bytes begin with, and what is behind it -/
def lenE : List Nat → Except Nat (Nat × List Nat)
  | [] => .error 122
  | f :: b =>
    if f < 128 then .ok (f, b) else if f = 128 ∨ 131 < f then .error 124 else if b.length < f - 128 then .error 122
    else if b.getD 0 0 = 0 ∨ beV (b.take (f - 128)) < 128 then .error 124 else .ok (beV (b.take (f - 128)), b.drop (f - 128))

mutual
/-- the item that bytes begin with, at a depth; fuel first -/
def rd : Nat → Nat → List Nat → Except Nat (Nat × List Nat × Tr × List Nat)
  | 0, _, _ => .error 0
  | f + 1, d, l =>
    if 16 < d then .error 125 else
    match l with
    | [] => .error 122
    | t :: b =>
      if t % 32 = 31 then .error 123 else
      match lenE b with
      | .error e => .error e
      | .ok (n, c) =>
        if c.length < n then .error 122 else
        if t / 32 % 2 = 1 then
          match rdA f (d + 1) (c.take n) with
          | .error e => .error e
          | .ok k => .ok (t, [], k, c.drop n)
        else .ok (t, c.take n, .nil, c.drop n)
/-- all items of bytes -/
def rdA : Nat → Nat → List Nat → Except Nat Tr
  | 0, _, _ => .ok .nil
  | f + 1, d, l =>
    match l with
    | [] => .ok .nil
    | x :: y =>
      match rd f d (x :: y) with
      | .error e => .error e
      | .ok (t, b, k, l') =>
        match rdA f d l' with
        | .error e => .error e
        | .ok r => .ok (.node t b k r)
end

/-- what is read already, ahead of what is to be read -/
def comb (A : Tr) : Except Nat Tr → Except Nat Tr
  | .error c => .error c
  | .ok r => .ok (A.app r)
theorem comb_nil (R : Except Nat Tr) : comb .nil R = R := by cases R <;> rfl
theorem rdA_nil (g d : Nat) : rdA g d [] = .ok .nil := by cases g <;> simp [rdA]
theorem rdA_err {g d : Nat} {x : Nat} {y : List Nat} {c : Nat} (A : Tr) (h : rd g d (x :: y) = .error c) : comb A (rdA (g + 1) d (x :: y)) = .error c := by simp only [rdA, h]; rfl
theorem rdA_ok {g d : Nat} {x : Nat} {y : List Nat} {t : Nat} {b : List Nat} {k : Tr} {r : List Nat} (A : Tr) (h : rd g d (x :: y) = .ok (t, b, k, r)) : comb A (rdA (g + 1) d (x :: y)) = comb (A.app (.node t b k .nil)) (rdA g d r) := by
  simp only [rdA, h]
  cases rdA g d r with
  | error c => rfl
  | ok r => simp [comb, Tr.app_assoc, Tr.app]
/-- Decode: an item, or an error -/
def decE (l : List Nat) : Except Nat (Nat × List Nat × Tr) :=
  if 65536 < l.length then .error 121 else
  match rd (l.length + 1) 1 l with
  | .error e => .error e
  | .ok (t, b, k, l') => if l' = [] then .ok (t, b, k) else .error 126

/-- a length's bytes -/
def lenB (n : Nat) : List Nat := if n < 128 then [n] else if n < 256 then [129, n] else [130, n / 256 % 256, n % 256]
/-- the bytes of a list of items -/
def Tr.enc : Tr → List Nat
  | .nil => []
  | .node t b k r => (t :: lenB (b.length + k.enc.length)) ++ (b ++ k.enc) ++ r.enc
/-- the first thing that is wrong with a list of items at a depth; 0: nothing -/
def Tr.err : Tr → Nat → Nat
  | .nil, _ => 0
  | .node t b k r, d =>
    if 16 < d then 125 else if t % 32 = 31 then 123 else if (t / 32 % 2 = 1 ∧ b ≠ [] ∨ t / 32 % 2 ≠ 1 ∧ k ≠ .nil) then 127
    else if k.err (d + 1) ≠ 0 then k.err (d + 1) else r.err d

theorem lenE_some {l : List Nat} {n : Nat} {c : List Nat} (h : lenE l = .ok (n, c)) : c.length < l.length := by
  cases l with
  | nil => simp [lenE] at h
  | cons f b =>
    simp only [lenE] at h
    repeat' (split at h)
    all_goals first
      | (simp at h; done)
      | (simp at h; obtain ⟨rfl, rfl⟩ := h; simp; done)
      | (simp at h; obtain ⟨rfl, rfl⟩ := h; simp; omega)

theorem rd_len : ∀ (f d : Nat) (l : List Nat) {t b k l'}, rd f d l = .ok (t, b, k, l') → l'.length + 2 ≤ l.length := by
  intro f d l t b k l' h
  cases f with
  | zero => simp [rd] at h
  | succ f =>
    cases l with
    | nil => simp only [rd] at h; split at h <;> simp at h
    | cons x y =>
      simp only [rd] at h
      split at h
      · simp at h
      · split at h
        · simp at h
        · cases hl : lenE y with
          | error e => rw [hl] at h; simp at h
          | ok p =>
            obtain ⟨n, c⟩ := p
            rw [hl] at h
            have := lenE_some hl
            simp only at h
            split at h
            · simp at h
            · split at h
              · split at h
                · simp at h
                · simp at h; obtain ⟨_, _, _, rfl⟩ := h; simp; omega
              · simp at h; obtain ⟨_, _, _, rfl⟩ := h; simp; omega
end Go.Proofs.Ytbabpmncdphnjaa
