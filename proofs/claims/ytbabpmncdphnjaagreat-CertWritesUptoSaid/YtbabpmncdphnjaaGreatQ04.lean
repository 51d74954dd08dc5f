/- Parts of proofs of statements, each text behind those that it stands on. No condition of its own. -/
import Derived.Deep.AppendLies
import Derived.Maps.AppendAt
import Derived.Test.YtbabpmncdphnjaaGreatQ01
namespace Go.Proofs.YtbabpmncdphnjaaGreat
set_option linter.unusedVariables false
set_option maxRecDepth 100000
inductive Tr where
  | nil
  | node (t : Nat) (b : List Nat) (k r : Tr)
  deriving DecidableEq
def Tr.len : Tr → Nat
  | .nil => 0
  | .node _ _ _ r => r.len + 1
def Tr.sz : Tr → Nat
  | .nil => 0
  | .node _ b k r => 1 + b.length + k.sz + r.sz
def Tr.app : Tr → Tr → Tr
  | .nil, s => s
  | .node t b k r, s => .node t b k (r.app s)
theorem Tr.app_nil : ∀ T : Tr, T.app .nil = T
  | .nil => rfl
  | .node t b k r => by simp [Tr.app, Tr.app_nil r]
theorem Tr.app_assoc : ∀ A B C : Tr, (A.app B).app C = A.app (B.app C)
  | .nil, _, _ => rfl
  | .node t b k r, B, C => by simp [Tr.app, Tr.app_assoc r B C]
theorem Tr.len_app : ∀ A B : Tr, (A.app B).len = A.len + B.len
  | .nil, _ => by simp [Tr.app, Tr.len]
  | .node t b k r, B => by simp [Tr.app, Tr.len, Tr.len_app r B]; omega
theorem Tr.sz_app : ∀ A B : Tr, (A.app B).sz = A.sz + B.sz
  | .nil, _ => by simp [Tr.app, Tr.sz]
  | .node t b k r, B => by simp [Tr.app, Tr.sz, Tr.sz_app r B]; omega
theorem Tr.len_zero {T : Tr} (h : T.len = 0) : T = .nil := by cases T with
  | nil => rfl
  | node => simp [Tr.len] at h
theorem Tr.len_pos {T : Tr} (h : 0 < T.len) : ∃ t b k r, T = .node t b k r := by cases T with
  | nil => simp [Tr.len] at h
  | node t b k r => exact ⟨t, b, k, r, rfl⟩
def Tr.low : Tr → Nat → Prop
  | .nil, _ => True
  | .node _ b k r, H => b.length ≤ H ∧ k.low H ∧ r.low H
def beV (l : List Nat) : Nat := l.foldl (fun v x => 256 * v + x) 0
theorem beV_snoc (l : List Nat) (x : Nat) : beV (l ++ [x]) = 256 * beV l + x := by simp [beV]
theorem beV_lt (l : List Nat) (h : ∀ x ∈ l, x < 256) : beV l < 256 ^ l.length := by
  suffices ∀ (l : List Nat) (v k : Nat), v < 256 ^ k → (∀ x ∈ l, x < 256) → l.foldl (fun v x => 256 * v + x) v < 256 ^ (k + l.length) by
    have := this l 0 0 (by simp) h; simpa [beV] using this
  intro l
  induction l with
  | nil => intro v k hv _; simpa using hv
  | cons a l ih =>
    intro v k hv ha
    have := ih (256 * v + a) (k + 1) (by have := ha a (by simp); rw [Nat.pow_succ]; omega) (fun x hx => ha x (by simp [hx]))
    simpa [Nat.add_assoc, Nat.add_comm 1] using this
def lenE : List Nat → Except Nat (Nat × List Nat)
  | [] => .error 122
  | f :: b =>
    if f < 128 then .ok (f, b) else if f = 128 ∨ 131 < f then .error 124 else if b.length < f - 128 then .error 122
    else if b.getD 0 0 = 0 ∨ beV (b.take (f - 128)) < 128 then .error 124 else .ok (beV (b.take (f - 128)), b.drop (f - 128))
mutual
def rd : Nat → Nat → List Nat → Except Nat (Nat × List Nat × Tr × List Nat)
  | 0, _, _ => .error 0
  | f + 1, d, l =>
    if 16 < d then .error 125 else
    match l with
    | [] => .error 122
    | t :: b =>
      if t % 32 = 31 then .error 123 else
      match lenE b with
      | .error e => .error e
      | .ok (n, c) =>
        if c.length < n then .error 122 else
        if t / 32 % 2 = 1 then
          match rdA f (d + 1) (c.take n) with
          | .error e => .error e
          | .ok k => .ok (t, [], k, c.drop n)
        else .ok (t, c.take n, .nil, c.drop n)
def rdA : Nat → Nat → List Nat → Except Nat Tr
  | 0, _, _ => .ok .nil
  | f + 1, d, l =>
    match l with
    | [] => .ok .nil
    | x :: y =>
      match rd f d (x :: y) with
      | .error e => .error e
      | .ok (t, b, k, l') =>
        match rdA f d l' with
        | .error e => .error e
        | .ok r => .ok (.node t b k r)
end
def comb (A : Tr) : Except Nat Tr → Except Nat Tr
  | .error c => .error c
  | .ok r => .ok (A.app r)
theorem comb_nil (R : Except Nat Tr) : comb .nil R = R := by cases R <;> rfl
theorem rdA_nil (g d : Nat) : rdA g d [] = .ok .nil := by cases g <;> simp [rdA]
theorem rdA_err {g d : Nat} {x : Nat} {y : List Nat} {c : Nat} (A : Tr) (h : rd g d (x :: y) = .error c) : comb A (rdA (g + 1) d (x :: y)) = .error c := by simp only [rdA, h]; rfl
theorem rdA_ok {g d : Nat} {x : Nat} {y : List Nat} {t : Nat} {b : List Nat} {k : Tr} {r : List Nat} (A : Tr) (h : rd g d (x :: y) = .ok (t, b, k, r)) : comb A (rdA (g + 1) d (x :: y)) = comb (A.app (.node t b k .nil)) (rdA g d r) := by
  simp only [rdA, h]
  cases rdA g d r with
  | error c => rfl
  | ok r => simp [comb, Tr.app_assoc, Tr.app]
def decE (l : List Nat) : Except Nat (Nat × List Nat × Tr) :=
  if 65536 < l.length then .error 121 else
  match rd (l.length + 1) 1 l with
  | .error e => .error e
  | .ok (t, b, k, l') => if l' = [] then .ok (t, b, k) else .error 126
def lenB (n : Nat) : List Nat := if n < 128 then [n] else if n < 256 then [129, n] else [130, n / 256 % 256, n % 256]
def Tr.enc : Tr → List Nat
  | .nil => []
  | .node t b k r => (t :: lenB (b.length + k.enc.length)) ++ (b ++ k.enc) ++ r.enc
def Tr.err : Tr → Nat → Nat
  | .nil, _ => 0
  | .node t b k r, d =>
    if 16 < d then 125 else if t % 32 = 31 then 123 else if (t / 32 % 2 = 1 ∧ b ≠ [] ∨ t / 32 % 2 ≠ 1 ∧ k ≠ .nil) then 127
    else if k.err (d + 1) ≠ 0 then k.err (d + 1) else r.err d
theorem lenE_some {l : List Nat} {n : Nat} {c : List Nat} (h : lenE l = .ok (n, c)) : c.length < l.length := by
  cases l with
  | nil => simp [lenE] at h
  | cons f b =>
    simp only [lenE] at h
    repeat' (split at h)
    all_goals first
      | (simp at h; done)
      | (simp at h; obtain ⟨rfl, rfl⟩ := h; simp; done)
      | (simp at h; obtain ⟨rfl, rfl⟩ := h; simp; omega)
theorem rd_len : ∀ (f d : Nat) (l : List Nat) {t b k l'}, rd f d l = .ok (t, b, k, l') → l'.length + 2 ≤ l.length := by
  intro f d l t b k l' h
  cases f with
  | zero => simp [rd] at h
  | succ f =>
    cases l with
    | nil => simp only [rd] at h; split at h <;> simp at h
    | cons x y =>
      simp only [rd] at h
      split at h
      · simp at h
      · split at h
        · simp at h
        · cases hl : lenE y with
          | error e => rw [hl] at h; simp at h
          | ok p =>
            obtain ⟨n, c⟩ := p
            rw [hl] at h
            have := lenE_some hl
            simp only at h
            split at h
            · simp at h
            · split at h
              · split at h
                · simp at h
                · simp at h; obtain ⟨_, _, _, rfl⟩ := h; simp; omega
              · simp at h; obtain ⟨_, _, _, rfl⟩ := h; simp; omega
end Go.Proofs.YtbabpmncdphnjaaGreat
namespace Go.Proofs.YtbabpmncdphnjaaGreat
open Go.RowKit
set_option linter.unusedVariables false
set_option maxRecDepth 100000
theorem bin_tail {w : World} {b off n c f : Nat} {l : List Nat} (h : BIn w (some ⟨b, off, none⟩) n c l) (hf : f < n) : BIn w (some ⟨b, off + f, none⟩) (n - f) (c - f) (l.drop f) := by
  have := bin_sub h (by omega) (show f + (n - f) ≤ n by omega)
  rwa [List.take_of_length_le (by have := h.1.1; simp; omega)] at this
theorem bin_head {w : World} {b off n c f : Nat} {l : List Nat} (h : BIn w (some ⟨b, off, none⟩) n c l) (hf : f ≤ n) (hn : 0 < n) : BIn w (some ⟨b, off, none⟩) f c (l.take f) := by
  obtain ⟨⟨h1, h2, h3, h4⟩, h5, h6, h7, h8⟩ := h
  obtain ⟨b', o', he, hc⟩ := h4.resolve_left (by omega)
  injection he with he
  injection he with e1 e2
  subst e1 e2
  refine ⟨⟨by simp; omega, by omega, fun x hx => h3 x (List.mem_of_mem_take hx), .inr ⟨b, off, rfl, fun i hi => ?_⟩⟩, by omega, h6, by omega, fun h => by cases h⟩
  rw [hc i (by omega)]
  congr 3
  simp only [List.getD_eq_getElem?_getD, List.getElem?_take]
  rw [if_pos hi]
theorem bin_drop {w : World} {b off n c f : Nat} {l : List Nat} (h : BIn w (some ⟨b, off, none⟩) n c l) (hf : f ≤ n) (hn : 0 < n) (A : Option Addr) (hA : A = some ⟨b, off, none⟩ ∧ n - f = 0 ∨ A = some ⟨b, off + f, none⟩) : BIn w A (n - f) (c - f) (l.drop f) := by
  by_cases h0 : n - f = 0
  · have h1 : l.drop f = [] := List.drop_of_length_le (by have := h.1.1; omega)
    rw [h1, h0]
    refine bin_empty w A (c - f) (by have := h.2.2.1; omega) (fun e => ?_)
    rcases hA with ⟨rfl, _⟩ | rfl <;> cases e
  · obtain rfl := hA.resolve_left (fun h => h0 h.2)
    exact bin_tail h (by omega)
theorem BIn.grown {w w' : World} {a : Option Addr} {n c g : Nat} {l : List Nat} (h : BIn w a n c l) (hg : w.grownBy w' (some g)) (ha : ∀ b, a = some b → 0 < n → b.block ≠ g) : BIn w' a n c l := by
  obtain ⟨⟨h1, h2, h3, h4⟩, h5⟩ := h
  refine ⟨⟨h1, h2, h3, ?_⟩, h5⟩
  rcases h4 with h4 | ⟨b, off, rfl, hc⟩
  · exact .inl h4
  · exact .inr ⟨b, off, rfl, fun i hi => hg.cell (hc i hi) (fun e => by injection e with e; exact ha _ rfl (by omega) e)⟩
theorem bin_headZ {w : World} {b off n c f : Nat} {l : List Nat} (h : BIn w (some ⟨b, off, none⟩) n c l) (hf : f ≤ n) : BIn w (some ⟨b, off, none⟩) f c (l.take f) := by
  rcases Nat.eq_zero_or_pos n with h0 | h0
  · obtain rfl : f = 0 := by omega
    exact bin_empty w _ c h.2.2.1 (fun h => by cases h)
  · exact bin_head h hf h0
theorem bin_dropZ {w : World} {b off n c f : Nat} {l : List Nat} (h : BIn w (some ⟨b, off, none⟩) n c l) (hf : f ≤ n) (A : Option Addr) (hA : A = some ⟨b, off, none⟩ ∧ n - f = 0 ∨ A = some ⟨b, off + f, none⟩) : BIn w A (n - f) (c - f) (l.drop f) := by
  rcases Nat.eq_zero_or_pos n with h0 | h0
  · have hl : l = [] := List.eq_nil_of_length_eq_zero (by have := h.1.1; omega)
    subst hl
    have e : n - f = 0 := by omega
    rw [e, List.drop_nil]
    exact bin_empty w _ _ (by have := h.2.2.1; omega) (fun h => by rcases hA with ⟨rfl, _⟩ | rfl <;> cases h)
  · exact bin_drop h hf h0 A hA
def Row (w : World) : Tr → Nat → Nat → Prop
  | .nil, _, _ => True
  | .node t bs k r, b, o =>
    t < 256 ∧ w.cell? ⟨b, o, none⟩ = some (.int .u8 (t : Nat)) ∧
    (∃ a c, w.cell? ⟨b, o + 1, none⟩ = some (.slice a bs.length c) ∧ BIn w a bs.length c bs) ∧
    (∃ a c, w.cell? ⟨b, o + 2, none⟩ = some (.slice a k.len c) ∧ (k.len ≤ c ∧ k.len ≤ 140737488355328 ∧ (a = none → c = 0)) ∧ (k.len = 0 ∨ ∃ b' o', a = some ⟨b', o', none⟩ ∧ Row w k b' o')) ∧
    Row w r b (o + 3)
def KIn (w : World) (a : Option Addr) (c : Nat) (k : Tr) : Prop :=
  (k.len ≤ c ∧ k.len ≤ 140737488355328 ∧ (a = none → c = 0)) ∧ (k.len = 0 ∨ ∃ b o, a = some ⟨b, o, none⟩ ∧ Row w k b o)
abbrev itV (t : Nat) (a : Option Addr) (n c : Nat) (a' : Option Addr) (n' c' : Nat) : Value := .agg #[.int .u8 (t : Nat), .slice a n c, .slice a' n' c']
def ItIn (w : World) (t : Nat) (a : Option Addr) (c : Nat) (a' : Option Addr) (c' : Nat) (b : List Nat) (k : Tr) : Prop := t < 256 ∧ BIn w a b.length c b ∧ KIn w a' c' k
theorem Row.below {w w' : World} (hb : Below w.heap.size w w') : ∀ {T : Tr} {b o : Nat}, Row w T b o → Row w' T b o
  | .nil, _, _, _ => trivial
  | .node t bs k r, b, o, ⟨h1, h2, ⟨a, c, h3, h4⟩, ⟨a', c', h5, h6, h7⟩, h8⟩ => by
    refine ⟨h1, (hb.cell (World.block_lt_of_cell? w _ h2)).trans h2, ⟨a, c, (hb.cell (World.block_lt_of_cell? w _ h3)).trans h3, h4.below hb⟩, ⟨a', c', (hb.cell (World.block_lt_of_cell? w _ h5)).trans h5, h6, ?_⟩, Row.below hb h8⟩
    rcases h7 with h7 | ⟨b', o', rfl, h7⟩
    · exact .inl h7
    · exact .inr ⟨b', o', rfl, Row.below hb h7⟩
theorem KIn.below {w w' : World} {a : Option Addr} {c : Nat} {k : Tr} (h : KIn w a c k) (hb : Below w.heap.size w w') : KIn w' a c k := by
  refine ⟨h.1, ?_⟩
  rcases h.2 with h2 | ⟨b, o, rfl, h2⟩
  · exact .inl h2
  · exact .inr ⟨b, o, rfl, h2.below hb⟩
theorem ItIn.below {w w' : World} {t : Nat} {a : Option Addr} {c : Nat} {a' : Option Addr} {c' : Nat} {b : List Nat} {k : Tr} (h : ItIn w t a c a' c' b k) (hb : Below w.heap.size w w') : ItIn w' t a c a' c' b k :=
  ⟨h.1, h.2.1.below hb, h.2.2.below hb⟩
theorem KIn.nil (w : World) : KIn w none 0 .nil := ⟨⟨Nat.le_refl _, Nat.zero_le _, fun _ => rfl⟩, .inl rfl⟩
theorem Row.head {w : World} {t : Nat} {bs : List Nat} {k r : Tr} {b o : Nat} (h : Row w (.node t bs k r) b o) :
    ∃ a c a' c', w.rangeAt b o [.int .u8 (t : Nat), .slice a bs.length c, .slice a' k.len c'] ∧ ItIn w t a c a' c' bs k ∧ Row w r b (o + 3) := by
  obtain ⟨h1, h2, ⟨a, c, h3, h4⟩, ⟨a', c', h5, h6, h7⟩, h8⟩ := h
  refine ⟨a, c, a', c', ?_, ⟨h1, h4, h6, h7⟩, h8⟩
  intro j v hv
  match j, hv with
  | 0, hv => simp at hv; subst hv; exact h2
  | 1, hv => simp at hv; subst hv; exact h3
  | 2, hv => simp at hv; subst hv; exact h5
  | j + 3, hv => simp at hv
theorem Row.node {w : World} {t : Nat} {bs : List Nat} {k r : Tr} {b o : Nat} {a : Option Addr} {c : Nat} {a' : Option Addr} {c' : Nat}
    (hr : w.rangeAt b o [.int .u8 (t : Nat), .slice a bs.length c, .slice a' k.len c']) (hi : ItIn w t a c a' c' bs k) (h : Row w r b (o + 3)) : Row w (.node t bs k r) b o :=
  ⟨hi.1, hr 0 _ rfl, ⟨a, c, hr 1 _ rfl, hi.2.1⟩, ⟨a', c', hr 2 _ rfl, hi.2.2.1, hi.2.2.2⟩, h⟩
theorem Row.append {w : World} : ∀ {A B : Tr} {b o : Nat}, Row w (A.app B) b o → Row w A b o ∧ Row w B b (o + 3 * A.len)
  | .nil, B, b, o, h => ⟨trivial, by simpa [Tr.len, Tr.app] using h⟩
  | .node t bs k r, B, b, o, ⟨h1, h2, h3, h4, h8⟩ => by
    obtain ⟨g1, g2⟩ := Row.append h8
    refine ⟨⟨h1, h2, h3, h4, g1⟩, ?_⟩
    have e : o + 3 + 3 * r.len = o + 3 * (r.len + 1) := by omega
    rw [e] at g2; exact g2
theorem info25 : (Tryz.prog.info? 45).map (·.size) = some 3 := by kernel_rfl
section
variable {w : World} {ops : Array Oper} {rest : List Oper} {o : Oper} {a : Act} {Q : Exit → Act → World → Prop}
theorem ldI (hgd : o.guard = none) (x : Operand) (ho : o.op = .load 45 x) (b off : Nat) (hx : a.eval x = .pointer (some ⟨b, off, none⟩)) (v0 v1 v2 : Value) (hr : w.rangeAt b off [v0, v1, v2])
    (h : wpList Tryz.prog ops Q rest (a.put o.dst (.agg #[v0, v1, v2])) w) : wpList Tryz.prog ops Q (o :: rest) a w :=
  wpList_load_mid hgd 45 x ho b off hx [v0, v1, v2] _ hr Tryz.underlying45 rfl info25 h
end
theorem rangeAt_new (w : World) (v0 v1 v2 : Value) (t : TypeId) : (w.alloc (.cells #[v0, v1, v2] t)).rangeAt w.heap.size 0 [v0, v1, v2] := by
  intro j v hv
  have h := (Blk.new w t [v0, v1, v2]).cell j
  rw [Nat.zero_add]; exact h.trans hv
theorem rangeAt_below {w w' : World} {b o : Nat} {cs : List Value} (h : w.rangeAt b o cs) (hb : Below w.heap.size w w') : w'.rangeAt b o cs := by
  intro j v hv
  have := h j v hv
  exact (hb.cell (World.block_lt_of_cell? w _ this)).trans this
end Go.Proofs.YtbabpmncdphnjaaGreat
namespace Go.Proofs.YtbabpmncdphnjaaGreat
open Go.RowKit
set_option linter.unusedVariables false
set_option maxRecDepth 100000
abbrev boom (c : Nat) : Ending := .panicked [{ v := .iface 27 (.int .i64 (c : Nat)), recovered := false }]
theorem must_ok (c : Int) (w : World) : Calls Tryz.prog 57 #[.bool true, .int .i64 c] w fun e w' => e = .returned (.tuple #[]) ∧ w' = w := by
  go_enter Tryz.func57, Tryz.ntmps57
  go_wp2
  go_end0
  exact ⟨rfl, rfl⟩
theorem must_bad (c : Int) (w : World) : Calls Tryz.prog 57 #[.bool false, .int .i64 c] w fun e w' => e = .panicked [{ v := .iface 27 (.int .i64 c), recovered := false }] ∧ w' = w := by
  go_enter Tryz.func57, Tryz.ntmps57
  go_wp2
  exact ⟨rfl, rfl, rfl⟩
theorem must_t {b : Bool} (hb : b = true) (c : Int) (w : World) : Calls Tryz.prog 57 #[.bool b, .int .i64 c] w fun e w' => e = .returned (.tuple #[]) ∧ w = w' := by
  subst hb; exact (must_ok c w).mono fun e w' h => ⟨h.1, h.2.symm⟩
theorem must_f {b : Bool} (hb : b = false) (c : Int) (w : World) : Calls Tryz.prog 57 #[.bool b, .int .i64 c] w fun e w' => e = .panicked [{ v := .iface 27 (.int .i64 c), recovered := false }] ∧ w = w' := by
  subst hb; exact (must_bad c w).mono fun e w' h => ⟨h.1, h.2.symm⟩
theorem and31 : ∀ t, t < 256 → ((t &&& 31) != 31) = !decide (t % 32 = 31) := by decide +kernel
theorem and32 : ∀ t, t < 256 → ((t &&& 32) != 0) = decide (t / 32 % 2 = 1) := by decide +kernel
theorem isTag_any (t : Nat) (ht : t < 256) (w : World) : Calls Tryz.prog 91 #[.int .u8 (t : Nat)] w fun e w' => e = .returned (.bool (!decide (t % 32 = 31))) ∧ w = w' := by
  have h1 : bits .and .u8 (t : Int) 31 = ((t &&& 31 : Nat) : Int) := u8_and_nat t 31 ht (by decide)
  have h2 : (((t &&& 31 : Nat) : Int) != 31) = !decide (t % 32 = 31) := by
    rw [← and31 t ht]; rw [Bool.eq_iff_iff]; simp; omega
  generalize (t &&& 31 : Nat) = z at *
  go_enter Tryz.func91, Tryz.ntmps91
  go_wp2
  go_ret
  exact ⟨rfl, rfl⟩
theorem hasKids_any (t : Nat) (ht : t < 256) (w : World) : Calls Tryz.prog 93 #[.int .u8 (t : Nat)] w fun e w' => e = .returned (.bool (decide (t / 32 % 2 = 1))) ∧ w = w' := by
  have h1 : bits .and .u8 (t : Int) 32 = ((t &&& 32 : Nat) : Int) := u8_and_nat t 32 ht (by decide)
  have h2 : (((t &&& 32 : Nat) : Int) != 0) = decide (t / 32 % 2 = 1) := by
    rw [← and32 t ht]; rw [Bool.eq_iff_iff]; simp
  generalize (t &&& 32 : Nat) = z at *
  go_enter Tryz.func93, Tryz.ntmps93
  go_wp2
  go_ret
  exact ⟨rfl, rfl⟩
end Go.Proofs.YtbabpmncdphnjaaGreat
namespace Go.Proofs.YtbabpmncdphnjaaGreat
open Go.RowKit
set_option linter.unusedVariables false
set_option maxRecDepth 100000
theorem ownsMono {w : World} {base base' : Nat} {e : TypeId} {size : Nat} {v : Value} {n : Nat} {xs : List Value} (h : w.ownsRow base e size v n xs) (hb : base' ≤ base) : w.ownsRow base' e size v n xs := by
  refine ⟨h.1, ?_⟩
  rcases h.2 with h2 | ⟨g, cap, cur, rfl, hbg, rest⟩
  · exact .inl h2
  · exact .inr ⟨g, cap, cur, rfl, by omega, rest⟩
theorem all_item (t : Int) (a : Option Addr) (n c : Nat) (a' : Option Addr) (n' c' : Nat) : (#[Value.int .u8 t, .slice a n c, .slice a' n' c'] : Array Value).all (·.oneCell') = true := by
  simp [Value.oneCell']
def ob (v : Value) : List Nat := v.ownBlock.toList
def OwnV (w : World) (base : Nat) : Tr → List Value → List Nat → Prop
  | .nil, xs, L => xs = [] ∧ L = []
  | .node t b k r, xs, L => ∃ v1 v2 xr ys L1 L2, xs = .int .u8 (t : Nat) :: v1 :: v2 :: xr ∧ t < 256 ∧ (∀ x ∈ b, x < 256) ∧ b.length ≤ 1048576 ∧ k.len ≤ 1048576 ∧
      w.ownsRow base 5 1 v1 b.length (bytesV b) ∧ w.ownsRow base 45 3 v2 k.len ys ∧ OwnV w base k ys L1 ∧ OwnV w base r xr L2 ∧ L = ob v1 ++ (ob v2 ++ (L1 ++ L2))
theorem own_keep {w w' : World} {base e size n : Nat} {v : Value} {xs : List Value} (h : w.ownsRow base e size v n xs) (hk : ∀ g ∈ ob v, w'.heap[g]? = w.heap[g]?) : w'.ownsRow base e size v n xs := by
  refine ⟨h.1, ?_⟩
  rcases h.2 with h2 | ⟨g, cap, cur, rfl, hbg, hg, rest⟩
  · exact .inl h2
  · exact .inr ⟨g, cap, cur, rfl, hbg, (hk g (by simp [ob, Value.ownBlock])).trans hg, rest⟩
theorem own_ob_lt {w : World} {base e size n : Nat} {v : Value} {xs : List Value} (h : w.ownsRow base e size v n xs) : ∀ g ∈ ob v, base ≤ g ∧ g < w.heap.size := by
  intro g hg
  exact h.lt g (by simpa [ob, Option.mem_toList] using hg)
theorem OwnV.keep {w w' : World} {base : Nat} : ∀ {T : Tr} {xs : List Value} {L : List Nat}, OwnV w base T xs L → (∀ g ∈ L, w'.heap[g]? = w.heap[g]?) → OwnV w' base T xs L
  | .nil, _, _, h, _ => h
  | .node t b k r, xs, L, ⟨v1, v2, xr, ys, L1, L2, e, h1, h2, h3, h4, h5, h6, h7, h8, eL⟩, hk => by
    subst eL
    refine ⟨v1, v2, xr, ys, L1, L2, e, h1, h2, h3, h4, own_keep h5 fun g hg => hk g (by simp [hg]), own_keep h6 fun g hg => hk g (by simp [hg]), OwnV.keep h7 fun g hg => hk g (by simp [hg]), OwnV.keep h8 fun g hg => hk g (by simp [hg]), rfl⟩
theorem OwnV.mono {w : World} {base base' : Nat} (hb : base' ≤ base) : ∀ {T : Tr} {xs : List Value} {L : List Nat}, OwnV w base T xs L → OwnV w base' T xs L
  | .nil, _, _, h => h
  | .node t b k r, xs, L, ⟨v1, v2, xr, ys, L1, L2, e, h1, h2, h3, h4, h5, h6, h7, h8, eL⟩ =>
    ⟨v1, v2, xr, ys, L1, L2, e, h1, h2, h3, h4, ownsMono h5 hb, ownsMono h6 hb, OwnV.mono hb h7, OwnV.mono hb h8, eL⟩
theorem OwnV.lt {w : World} {base : Nat} : ∀ {T : Tr} {xs : List Value} {L : List Nat}, OwnV w base T xs L → ∀ g ∈ L, base ≤ g ∧ g < w.heap.size
  | .nil, _, _, ⟨_, rfl⟩ => by simp
  | .node t b k r, xs, L, ⟨v1, v2, xr, ys, L1, L2, e, h1, h2, h3, h4, h5, h6, h7, h8, eL⟩ => by
    subst eL
    intro g hg
    simp only [List.mem_append] at hg
    rcases hg with hg | hg | hg | hg
    · exact own_ob_lt h5 g hg
    · exact own_ob_lt h6 g hg
    · exact OwnV.lt h7 g hg
    · exact OwnV.lt h8 g hg
theorem OwnV.below {w w' : World} {base : Nat} {T : Tr} {xs : List Value} {L : List Nat} (h : OwnV w base T xs L) (hb : Below w.heap.size w w') : OwnV w' base T xs L :=
  h.keep fun g hg => hb.block g (h.lt g hg).2
theorem OwnV.len {w : World} {base : Nat} : ∀ {T : Tr} {xs : List Value} {L : List Nat}, OwnV w base T xs L → xs.length = 3 * T.len
  | .nil, _, _, ⟨rfl, _⟩ => rfl
  | .node t b k r, xs, L, ⟨v1, v2, xr, ys, L1, L2, e, h1, h2, h3, h4, h5, h6, h7, h8, eL⟩ => by
    subst e
    have := OwnV.len h8
    simp [Tr.len, this]; omega
theorem OwnV.app {w : World} {base : Nat} : ∀ {A B : Tr} {xs ys : List Value} {L M : List Nat}, OwnV w base A xs L → OwnV w base B ys M → OwnV w base (A.app B) (xs ++ ys) (L ++ M)
  | .nil, B, _, _, _, _, ⟨rfl, rfl⟩, h => h
  | .node t b k r, B, _, zs, _, M, ⟨v1, v2, xr, ys, L1, L2, e, h1, h2, h3, h4, h5, h6, h7, h8, eL⟩, h => by
    subst e eL
    exact ⟨v1, v2, xr ++ zs, ys, L1, L2 ++ M, rfl, h1, h2, h3, h4, h5, h6, h7, OwnV.app h8 h, by simp⟩
theorem own_slice {w : World} {base e size n : Nat} {v : Value} {xs : List Value} (h : w.ownsRow base e size v n xs) : ∃ a c, v = .slice a n c := by
  rcases h.2 with ⟨rfl, rfl⟩ | ⟨g, cap, cur, rfl, _⟩
  · exact ⟨_, _, rfl⟩
  · exact ⟨_, _, rfl⟩
theorem OwnV.cell1 {w : World} {base : Nat} : ∀ {T : Tr} {xs : List Value} {L : List Nat}, OwnV w base T xs L → ∀ u ∈ xs, u.oneCell' = true
  | .nil, _, _, ⟨rfl, _⟩ => by simp
  | .node t b k r, xs, L, ⟨v1, v2, xr, ys, L1, L2, e, h1, h2, h3, h4, h5, h6, h7, h8, eL⟩ => by
    subst e
    obtain ⟨a, c, rfl⟩ := own_slice h5
    obtain ⟨a', c', rfl⟩ := own_slice h6
    intro u hu
    simp only [List.mem_cons] at hu
    rcases hu with rfl | rfl | rfl | hu
    · rfl
    · rfl
    · rfl
    · exact OwnV.cell1 h8 u hu
theorem own_row3 {w : World} {base g n cap : Nat} {ys : List Value} (h : w.ownsRow base 45 3 (.slice (some ⟨g, 0, none⟩) n cap) n ys) : ∀ j u, ys[j]? = some u → w.cell? ⟨g, 0 + j, none⟩ = some u := by
  intro j u hu
  have hj : j < ys.length := (List.getElem?_eq_some_iff.1 hu).1
  rw [Nat.zero_add, h.cellAt j (by rw [← h.1]; exact hj)]; exact hu
theorem OwnV.row {w : World} {base : Nat} : ∀ {T : Tr} {xs : List Value} {L : List Nat}, OwnV w base T xs L → ∀ g o, (∀ j u, xs[j]? = some u → w.cell? ⟨g, o + j, none⟩ = some u) → Row w T g o
  | .nil, _, _, _, _, _, _ => trivial
  | .node t b k r, xs, L, ⟨v1, v2, xr, ys, L1, L2, e, h1, h2, h3, h4, h5, h6, h7, h8, eL⟩, g, o, hc => by
    subst e
    have hr := OwnV.row h8 g (o + 3) (fun j u hu => by rw [Nat.add_assoc, Nat.add_comm 3 j]; exact hc (j + 3) u (by simpa using hu))
    obtain ⟨a, c, rfl, hb, _⟩ := own_in h5 h2 (by omega)
    refine ⟨h1, hc 0 _ rfl, ⟨a, c, hc 1 _ rfl, hb⟩, ?_, hr⟩
    have c2 := hc 2 _ rfl
    rcases h6.2 with ⟨rfl, h0⟩ | ⟨g', cap, cur, rfl, _, hg, hle, hm, _, _⟩
    · refine ⟨none, 0, by rw [h0]; exact c2, ⟨by omega, by omega, fun _ => rfl⟩, .inl h0⟩
    · by_cases h0 : k.len = 0
      · exact ⟨_, _, c2, ⟨hle, by omega, fun h => by cases h⟩, .inl h0⟩
      · exact ⟨_, _, c2, ⟨hle, by omega, fun h => by cases h⟩, .inr ⟨g', 0, rfl, OwnV.row h7 g' 0 (own_row3 h6)⟩⟩
theorem OwnV.kin {w : World} {base : Nat} {k : Tr} {v : Value} {ys : List Value} {L : List Nat} (h6 : w.ownsRow base 45 3 v k.len ys) (h7 : OwnV w base k ys L) (h4 : k.len ≤ 1048576) : ∃ a c, v = .slice a k.len c ∧ KIn w a c k := by
  rcases h6.2 with ⟨rfl, h0⟩ | ⟨g', cap, cur, rfl, _, hg, hle, hm, _, _⟩
  · exact ⟨none, 0, by rw [h0], ⟨by omega, by omega, fun _ => rfl⟩, .inl h0⟩
  · refine ⟨_, _, rfl, ⟨hle, by omega, fun h => by cases h⟩, ?_⟩
    by_cases h0 : k.len = 0
    · exact .inl h0
    · exact .inr ⟨g', 0, rfl, OwnV.row h7 g' 0 (own_row3 h6)⟩
theorem OwnV.item {w : World} {base : Nat} {t : Nat} {b : List Nat} {k : Tr} {v0 v1 v2 : Value} {L : List Nat} (h : OwnV w base (.node t b k .nil) [v0, v1, v2] L) :
    ∃ a c a' c', v0 = .int .u8 (t : Nat) ∧ v1 = .slice a b.length c ∧ v2 = .slice a' k.len c' ∧ ItIn w t a c a' c' b k := by
  obtain ⟨w1, w2, xr, ys, L1, L2, e, h1, h2, h3, h4, h5, h6, h7, h8, eL⟩ := h
  injection e with e0 e; injection e with e1 e; injection e with e2 e
  subst e0 e1 e2
  obtain ⟨a, c, rfl, hb, _⟩ := own_in h5 h2 (by omega)
  obtain ⟨a', c', rfl, hk⟩ := OwnV.kin h6 h7 h4
  exact ⟨a, c, a', c', rfl, rfl, rfl, h1, hb, hk⟩
theorem OwnV.mk {w : World} {base : Nat} {t : Nat} {b : List Nat} {k : Tr} {v1 v2 : Value} {ys : List Value} {L1 : List Nat} (h1 : t < 256) (h2 : ∀ x ∈ b, x < 256) (h3 : b.length ≤ 1048576) (h4 : k.len ≤ 1048576)
    (h5 : w.ownsRow base 5 1 v1 b.length (bytesV b)) (h6 : w.ownsRow base 45 3 v2 k.len ys) (h7 : OwnV w base k ys L1) : OwnV w base (.node t b k .nil) [.int .u8 (t : Nat), v1, v2] (ob v1 ++ (ob v2 ++ L1)) :=
  ⟨v1, v2, [], ys, L1, [], rfl, h1, h2, h3, h4, h5, h6, h7, ⟨rfl, rfl⟩, by simp⟩
theorem own_other {w : World} {base e size n g : Nat} {v : Value} {xs cs : List Value} {t : TypeId} (h : w.ownsRow base e size v n xs) (hb : Blk w g t cs) (hne : e ≠ t) : ∀ x ∈ ob v, x ≠ g := by
  rintro x hx rfl
  rcases h.2 with ⟨rfl, _⟩ | ⟨g', cap, cur, rfl, _, hg, _⟩
  · simp [ob, Value.ownBlock] at hx
  · simp [ob, Value.ownBlock] at hx
    subst hx
    unfold Blk at hb
    rw [hb] at hg
    injection hg with hg
    injection hg with _ h2
    exact hne h2.symm
theorem own_set {w : World} {base e size n g : Nat} {v : Value} {xs cs : List Value} {t : TypeId} (h : w.ownsRow base e size v n xs) (hb : Blk w g t cs) (hne : e ≠ t) (ds : Array Value) : (w.setRow g ds).ownsRow base e size v n xs :=
  own_keep h fun x hx => setRow_other w g x ds (own_other h hb hne x hx)
theorem results_one {P : Program} {fn : Func} {p : Tmp} {ty : TypeId} (h : fn.results = #[.cell p ty]) (tmps : Array Value) (w : World) (g : Nat) (t : TypeId) (cs : Array Value) (fr : Nat × Nat) (d : TypeDesc)
    (hp : tmps.getD p undef = .pointer (some ⟨g, 0, none⟩)) (hg : w.heap[g]? = some (.cells cs t fr))
    (hu : P.underlying ty = some d) (hd : (match d with | .struct _ | .array _ _ => true | _ => false) = true) (hi : (P.info? ty).map (·.size) = some cs.size) :
    (results fn tmps).run P w = .ok (.agg cs) w := by
  have hp' : tmps[p]?.getD undef = .pointer (some ⟨g, 0, none⟩) := by simpa using hp
  simp [results, h, hp', asAddr, run_loadVar_row w g t ty cs fr d hg hu hd hi]
end Go.Proofs.YtbabpmncdphnjaaGreat
namespace Go.Proofs.YtbabpmncdphnjaaGreat
set_option linter.unusedVariables false
set_option maxRecDepth 100000
theorem Tr.enc_app : ∀ A B : Tr, (A.app B).enc = A.enc ++ B.enc
  | .nil, _ => rfl
  | .node t b k r, B => by simp only [Tr.app, Tr.enc, Tr.enc_app r B, List.append_assoc]
theorem Tr.err_app : ∀ (A B : Tr) (d : Nat), (A.app B).err d = if A.err d ≠ 0 then A.err d else B.err d
  | .nil, _, _ => by simp [Tr.app, Tr.err]
  | .node t b k r, B, d => by
    simp only [Tr.app, Tr.err, Tr.err_app r B d]
    repeat' split
    all_goals first | rfl | (exfalso; omega) | simp_all
theorem lenB_len (n : Nat) : 1 ≤ (lenB n).length ∧ (lenB n).length ≤ 3 := by
  unfold lenB; split
  · simp
  · split <;> simp
theorem lenB_lt (n : Nat) : ∀ x ∈ lenB n, x < 256 := by
  unfold lenB; split
  · intro x hx; simp at hx; omega
  · split
    · intro x hx; simp at hx; omega
    · intro x hx; simp at hx; omega
theorem lenE_lenB (n : Nat) (m : List Nat) (hn : n < 65536) : lenE (lenB n ++ m) = .ok (n, m) := by
  unfold lenB
  split
  · rename_i h; simp [lenE, h]
  · rename_i h
    split
    · rename_i h2
      have e : beV [n] = n := by simp [beV]
      have : lenE (129 :: n :: m) = .ok (n, m) := by
        simp only [lenE]
        rw [if_neg (by omega), if_neg (by omega), if_neg (by simp), if_neg (by simp [e]; omega)]
        simp [e]
      simpa using this
    · rename_i h2
      have e : beV [n / 256 % 256, n % 256] = n := by simp [beV]; omega
      have : lenE (130 :: (n / 256 % 256) :: (n % 256) :: m) = .ok (n, m) := by
        simp only [lenE]
        rw [if_neg (by omega), if_neg (by omega), if_neg (by simp), if_neg (by simp [e]; omega)]
        simp [e]
      simpa using this
def encI (t : Nat) (b : List Nat) (k : Tr) : List Nat := t :: lenB (b.length + k.enc.length) ++ (b ++ k.enc)
theorem enc_node (t : Nat) (b : List Nat) (k r : Tr) : (Tr.node t b k r).enc = encI t b k ++ r.enc := rfl
theorem enc_one (t : Nat) (b : List Nat) (k : Tr) : (Tr.node t b k .nil).enc = encI t b k := by simp [Tr.enc, encI]
def errI (t : Nat) (b : List Nat) (k : Tr) (d : Nat) : Nat := (Tr.node t b k .nil).err d
theorem err_node (t : Nat) (b : List Nat) (k r : Tr) (d : Nat) : (Tr.node t b k r).err d = if errI t b k d ≠ 0 then errI t b k d else r.err d := by
  have := Tr.err_app (.node t b k .nil) r d
  unfold errI; exact this
theorem errI_zero {t : Nat} {b : List Nat} {k : Tr} {d : Nat} (h : errI t b k d = 0) : ¬ 16 < d ∧ ¬ t % 32 = 31 ∧ (t / 32 % 2 = 1 → b = []) ∧ (¬ t / 32 % 2 = 1 → k = .nil) ∧ k.err (d + 1) = 0 := by
  unfold errI at h
  simp only [Tr.err] at h
  split at h
  · omega
  · split at h
    · omega
    · split at h
      · omega
      · rename_i h1 h2 h3
        refine ⟨h1, h2, fun h => ?_, fun h => ?_, ?_⟩
        · exact Classical.byContradiction fun hb => h3 (.inl ⟨h, hb⟩)
        · exact Classical.byContradiction fun hk => h3 (.inr ⟨h, hk⟩)
        · split at h
          · rename_i h4; omega
          · rename_i h4; omega
theorem errI_deep {t : Nat} {b : List Nat} {k : Tr} {d : Nat} (h : 16 < d) : errI t b k d = 125 := by simp [errI, Tr.err, h]
theorem errI_tag {t : Nat} {b : List Nat} {k : Tr} {d : Nat} (h1 : ¬ 16 < d) (h : t % 32 = 31) : errI t b k d = 123 := by simp [errI, Tr.err, h, h1]
theorem errI_val {t : Nat} {b : List Nat} {k : Tr} {d : Nat} (h1 : ¬ 16 < d) (h2 : ¬ t % 32 = 31) (h : t / 32 % 2 = 1 ∧ b ≠ [] ∨ t / 32 % 2 ≠ 1 ∧ k ≠ .nil) : errI t b k d = 127 := by
  unfold errI; simp only [Tr.err]; rw [if_neg h1, if_neg h2, if_pos h]
theorem errI_kids {t : Nat} {b : List Nat} {k : Tr} {d : Nat} (h1 : ¬ 16 < d) (h2 : ¬ t % 32 = 31) (h : ¬ (t / 32 % 2 = 1 ∧ b ≠ [] ∨ t / 32 % 2 ≠ 1 ∧ k ≠ .nil)) : errI t b k d = k.err (d + 1) := by
  unfold errI; simp only [Tr.err]; rw [if_neg h1, if_neg h2, if_neg h]
  split
  · rfl
  · omega
theorem rd_enc {t : Nat} {b : List Nat} {k : Tr} {d f : Nat} (m : List Nat) (he : errI t b k d = 0) (hl : (encI t b k).length ≤ 65536) (hk : t / 32 % 2 = 1 → rdA f (d + 1) k.enc = .ok k) : rd (f + 1) d (encI t b k ++ m) = .ok (t, b, k, m) := by
  obtain ⟨h1, h2, h3, h4, h5⟩ := errI_zero he
  have e : encI t b k ++ m = t :: (lenB (b.length + k.enc.length) ++ (b ++ k.enc ++ m)) := by simp [encI]
  have hlen : b.length + k.enc.length < 65536 := by
    have := (lenB_len (b.length + k.enc.length)).1
    simp only [encI, List.length_append, List.length_cons] at hl; omega
  rw [e]
  have hL := lenE_lenB (b.length + k.enc.length) (b ++ k.enc ++ m) hlen
  simp only [rd, if_neg h1, if_neg h2, hL]
  rw [if_neg (by simp)]
  by_cases ht : t / 32 % 2 = 1
  · obtain rfl := h3 ht
    rw [if_pos ht]
    simp [hk ht]
  · obtain rfl := h4 ht
    rw [if_neg ht]
    simp [Tr.enc]
theorem rdA_enc : ∀ (T : Tr) (d f : Nat), T.err d = 0 → T.enc.length ≤ 65536 → T.enc.length + 2 ≤ f → rdA f d T.enc = .ok T
  | .nil, d, f, _, _, _ => rdA_nil f d
  | .node t b k r, d, f, he, hl, hf => by
    rw [err_node] at he
    have he1 : errI t b k d = 0 := by
      by_cases h : errI t b k d = 0
      · exact h
      · rw [if_pos h] at he; exact he
    rw [if_neg (by omega)] at he
    rw [enc_node] at hl hf ⊢
    simp only [List.length_append] at hl hf
    obtain ⟨h1, h2, h3, h4, h5⟩ := errI_zero he1
    have hkl : k.enc.length + 2 ≤ (encI t b k).length := by
      have := (lenB_len (b.length + k.enc.length)).1
      simp only [encI, List.length_append, List.length_cons]; omega
    obtain ⟨f, rfl⟩ : ∃ g, f = g + 2 := ⟨f - 2, by omega⟩
    have hrd := rd_enc (f := f) r.enc he1 (by omega) (fun _ => rdA_enc k (d + 1) f h5 (by omega) (by omega))
    have hrA := rdA_enc r d (f + 1) he (by omega) (by omega)
    obtain ⟨x, y, hxy⟩ : ∃ x y, encI t b k ++ r.enc = x :: y := ⟨t, _, by simp [encI]; rfl⟩
    rw [hxy] at hrd ⊢
    have h9 := rdA_ok .nil hrd
    rw [comb_nil] at h9
    rw [h9, hrA]
    rfl
def encE (t : Nat) (b : List Nat) (k : Tr) : Except Nat (List Nat) := if errI t b k 1 ≠ 0 then .error (errI t b k 1) else if 65536 < (encI t b k).length then .error 121 else .ok (encI t b k)
theorem encE_ok {t : Nat} {b : List Nat} {k : Tr} {c : List Nat} (h : encE t b k = .ok c) : errI t b k 1 = 0 ∧ c = encI t b k ∧ c.length ≤ 65536 := by
  unfold encE at h
  split at h
  · simp at h
  · split at h
    · simp at h
    · simp at h; subst h; exact ⟨by omega, rfl, by omega⟩
theorem encE_err {t : Nat} {b : List Nat} {k : Tr} (h : errI t b k 1 ≠ 0) : encE t b k = .error (errI t b k 1) := by unfold encE; rw [if_pos h]
theorem encE_long {t : Nat} {b : List Nat} {k : Tr} (h : errI t b k 1 = 0) (h2 : 65536 < (encI t b k).length) : encE t b k = .error 121 := by unfold encE; rw [if_neg (by omega), if_pos h2]
theorem encE_good {t : Nat} {b : List Nat} {k : Tr} (h : errI t b k 1 = 0) (h2 : ¬ 65536 < (encI t b k).length) : encE t b k = .ok (encI t b k) := by unfold encE; rw [if_neg (by omega), if_neg h2]
theorem encE_err0 {t : Nat} {b : List Nat} {k : Tr} {x : Nat} (h : encE t b k = .error x) : x ≠ 0 := by
  unfold encE at h
  split at h
  · simp at h; omega
  · split at h
    · simp at h; omega
    · simp at h
theorem nzS {x : Nat} (h : x ≠ 0) : ((x : Int) != 0) = true := by simp; omega
theorem dec_enc {t : Nat} {b : List Nat} {k : Tr} {c : List Nat} (h : encE t b k = .ok c) (m : List Nat) : rd ((c ++ m).length + 1) 1 (c ++ m) = .ok (t, b, k, m) := by
  obtain ⟨h1, rfl, h3⟩ := encE_ok h
  have h5 := (errI_zero h1).2.2.2.2
  refine rd_enc m h1 h3 (fun _ => rdA_enc k 2 _ h5 ?_ ?_)
  · simp only [encI, List.length_append, List.length_cons] at h3; omega
  · have := (lenB_len (b.length + k.enc.length)).1
    simp only [encI, List.length_append, List.length_cons]; omega
theorem dec_back {t : Nat} {b : List Nat} {k : Tr} {c : List Nat} (h : encE t b k = .ok c) : decE c = .ok (t, b, k) := by
  have h1 := dec_enc h []
  rw [List.append_nil] at h1
  have := (encE_ok h).2.2
  simp only [decE, h1]
  rw [if_neg (by omega)]; rfl
@[irreducible] def capL (n : Nat) : Nat := min n 65537
theorem capL_le (n : Nat) : capL n ≤ 65537 := by unfold capL; omega
theorem capL_add (x y : Nat) : capL (capL x + capL y) = capL (x + y) := by unfold capL; omega
theorem capL_len (n : Nat) : capL (1 + (lenB (capL n)).length + capL n) = capL (1 + (lenB n).length + n) := by
  have h1 := lenB_len n
  have h2 := lenB_len (capL n)
  by_cases h : n ≤ 65537
  · have : capL n = n := by unfold capL; omega
    rw [this]
  · have : capL n = 65537 := by unfold capL; omega
    rw [this] at h2 ⊢
    unfold capL
    omega
theorem encI_length (t : Nat) (b : List Nat) (k : Tr) : (encI t b k).length = 1 + (lenB (b.length + k.enc.length)).length + (b.length + k.enc.length) := by
  simp only [encI, List.length_append, List.length_cons]; omega
end Go.Proofs.YtbabpmncdphnjaaGreat
namespace Go.Proofs.YtbabpmncdphnjaaGreat
open Go.RowKit
set_option linter.unusedVariables false
set_option maxRecDepth 100000
theorem made_lit (w : World) (l : List Nat) (cs : Array Value) (hc : cs = (bytesV l).toArray) (hn : l.length ≤ 1048576) (n : Nat) (hl : l.length = n) : Made l w (.returned (.slice (some ⟨w.heap.size, 0, none⟩) n n)) (w.alloc (.cells cs 5)) := by
  subst hc hl
  have h := World.ownsRow_lit (base := w.heap.size) (e := 5) (size := 1) w (bytesV l).toArray l.length (Nat.le_refl _) (by simp only [maxLen]; omega) (by simp [bytesV])
  exact ⟨_, rfl, h, (Below.refl _ w).alloc (Nat.le_refl _) _⟩
set_option maxHeartbeats 1000000 in
theorem ofLength_any (n : Nat) (hn : n ≤ 65537) (w : World) : Calls Tryz.prog 106 #[.int .i64 (n : Nat)] w (Made (lenB n) w) := by
  by_cases h1 : n < 128
  · have h1i : (n : Int) < 128 := by omega
    have HX := Lib.hid (show lenB n = [n] by unfold lenB; rw [if_pos h1])
    go_enter Tryz.func106, Tryz.ntmps106
    go_wp2
    go_ret
    rw [HX.out]
    refine made_lit w [n] _ ?_ (by simp) 1 rfl
    simp [bytesV] <;> omega
  · have h1i : ¬ (n : Int) < 128 := by omega
    by_cases h2 : n < 256
    · have h2i : (n : Int) < 256 := by omega
      have HX := Lib.hid (show lenB n = [129, n] by unfold lenB; rw [if_neg h1, if_pos h2])
      go_enter Tryz.func106, Tryz.ntmps106
      go_wp2
      go_ret
      rw [HX.out]
      refine made_lit w [129, n] _ ?_ (by simp) 2 rfl
      simp [bytesV] <;> omega
    · have h2i : ¬ (n : Int) < 256 := by omega
      have HX := Lib.hid (show lenB n = [130, n / 256 % 256, n % 256] by unfold lenB; rw [if_neg h1, if_neg h2])
      go_enter Tryz.func106, Tryz.ntmps106
      go_wp2
      trace_state
      go_ret
      rw [HX.out]
      refine made_lit w [130, n / 256 % 256, n % 256] _ ?_ (by simp) 3 rfl
      simp [bytesV] <;> omega
end Go.Proofs.YtbabpmncdphnjaaGreat
namespace Go.Proofs.YtbabpmncdphnjaaGreat
open Go.RowKit
set_option linter.unusedVariables false
set_option maxRecDepth 100000
theorem wpList_append_at {w : World} {ops : Array Oper} {rest : List Oper} {o : Oper} {a : Act} {Q : Exit → Act → World → Prop} (hgd : o.guard = none) (s x : Operand)
    (ho : o.op = .call { callee := .builtin .append, args := #[s, x], argTypes := #[22, 22] })
    (base : Nat) (v : Value) (n : Nat) (xs : List Nat) (hs : a.eval s = v) (hown : w.ownsRow base 5 1 v n (bytesV xs))
    (A : Option Addr) (m c : Nat) (l : List Nat) (hx : a.eval x = .slice A m c) (hr : BIn w A m c l) (hb : n + m ≤ 140737488355328) (hbase : base ≤ w.heap.size)
    (h : ∀ v' w', w'.ownsRow base 5 1 v' (n + m) (bytesV (xs ++ l)) → w.grownBy w' v.ownBlock → (∀ g, v'.ownBlock = some g → v.ownBlock = some g ∨ w.heap.size ≤ g) → wpList Tryz.prog ops Q rest (a.put o.dst v') w') : wpList Tryz.prog ops Q (o :: rest) a w := by
  obtain ⟨i0, hi, hz0, hz1, hz2⟩ := info_parts info5
  obtain ⟨⟨hl, hm, hlt, hrow⟩, hc1, hc2, _, hnil⟩ := hr
  have hone : ∀ u ∈ bytesV l, u.oneCell' = true := by
    intro u hu; obtain ⟨y, _, rfl⟩ := List.mem_map.1 hu; rfl
  rcases A with _ | ad
  · have := hnil rfl
    obtain rfl : m = 0 := by omega
    subst this
    obtain rfl : l = [] := List.eq_nil_of_length_eq_zero hl
    refine wpList_plain hgd fun K hK => ?_
    have hrun := run_append_owned_none (P := Tryz.prog) w base 22 o.type 5 i0 1 Tryz.underlying22 hi v n (bytesV xs) hown
    have h2 := h v w (by simpa using hown) ⟨rfl, rfl, rfl, Nat.le_refl _, fun _ _ _ => rfl⟩ (fun g hg => .inl hg)
    unfold Oper.wp
    simp [execOp, ho, resolve, invoke, builtin, hs, hx, hrun, Result.andThen]
    exact hK _ _ h2
  · refine wpList_append_own_at w hgd s x 22 ho base 5 i0 (.int .u8 0) 1 1 Tryz.underlying22 hi hz0 hz1 hz2 rfl (by decide) v n (bytesV xs) hs hown ad m c (bytesV l) hx (by simpa [bytesV] using hl) ?_ hone (by simp only [maxLen]; omega) (by omega) hbase ?_
    · intro j u hu
      have hj : j < l.length := by
        rcases Nat.lt_or_ge j l.length with h | h
        · exact h
        · rw [List.getElem?_eq_none (by simpa [bytesV] using h)] at hu; cases hu
      obtain ⟨b, off, hA, hc⟩ := hrow.resolve_left (by omega)
      injection hA with hA; subst hA
      rw [Addr.add_mid, hc j (by omega), ← hu]
      simp [bytesV, List.getD_eq_getElem?_getD, List.getElem?_eq_getElem hj]
    · intro v' w' h1 h2 _ h4
      refine h v' w' (by simpa [bytesV] using h1) h2 (fun g hg => ?_)
      rcases h4 with h4 | h4
      · exact .inl (h4 ▸ hg)
      · rw [h4] at hg; injection hg with hg; exact .inr (by omega)
theorem grown_step {w wa wb : World} {r r' : Option Nat} (h : w.grownBy wa r) (k : wa.grownBy wb r') (hr : ∀ g, r' = some g → r = some g ∨ w.heap.size ≤ g) : w.grownBy wb r :=
  ⟨k.os.trans h.os, k.tape.trans h.tape, k.output.trans h.output, Nat.le_trans h.size k.size, fun i hi hn => (k.block i (Nat.lt_of_lt_of_le hi h.size) (fun e => by
    rcases hr i e.symm with h1 | h1
    · exact hn h1.symm
    · omega)).trans (h.block i hi hn)⟩
theorem kept_apart {w w' : World} {B e size n : Nat} {v : Value} {xs : List Value} {row : Option Nat} (h : w.ownsRow B e size v n xs) (hg : w.grownBy w' row) (hne : ∀ g, v.ownBlock = some g → row ≠ some g) : w'.ownsRow B e size v n xs :=
  own_keep h fun g hgv => hg.block g (own_ob_lt h g hgv).2 (fun e => hne g (by simpa [ob, Option.mem_toList] using hgv) e.symm)
theorem bin_one (w : World) (t : Nat) (ht : t < 256) : BIn (w.alloc (.cells #[.int .u8 (t : Nat)] 5)) (some ⟨w.heap.size, 0, none⟩) 1 1 [t] := by
  have h := World.ownsRow_lit (base := 0) (e := 5) (size := 1) w (bytesV [t]).toArray 1 (Nat.zero_le _) (by simp [maxLen]) (by simp [bytesV])
  obtain ⟨a, c, h1, h2, _⟩ := own_in (l := [t]) h (by simpa using ht) (by omega)
  injection h1 with h1 h3 h4
  subst h1 h4
  exact h2
theorem row_enc8 {w : World} : ∀ {T : Tr} {b o : Nat}, Row w T b o → ∀ z ∈ T.enc, z < 256
  | .nil, _, _, _ => by simp [Tr.enc]
  | .node t bs k r, b, o, ⟨h1, h2, ⟨a, c, h3, h4⟩, ⟨a', c', h5, h6, h7⟩, h8⟩ => by
    intro z hz
    rw [enc_node] at hz
    simp only [encI, List.mem_append, List.mem_cons] at hz
    rcases hz with ((rfl | hz) | hz | hz) | hz
    · exact h1
    · exact lenB_lt _ z hz
    · exact h4.1.2.2.1 z hz
    · rcases h7 with h7 | ⟨b', o', _, h7⟩
      · rw [Tr.len_zero h7] at hz; simp [Tr.enc] at hz
      · exact row_enc8 h7 z hz
    · exact row_enc8 h8 z hz
theorem kin_enc8 {w : World} {a : Option Addr} {c : Nat} {k : Tr} (h : KIn w a c k) : ∀ z ∈ k.enc, z < 256 := by
  rcases h.2 with h2 | ⟨b, o, _, h2⟩
  · rw [Tr.len_zero h2]; simp [Tr.enc]
  · exact row_enc8 h2
theorem item_enc8 {w : World} {t : Nat} {a : Option Addr} {c : Nat} {a' : Option Addr} {c' : Nat} {b : List Nat} {k : Tr} (h : ItIn w t a c a' c' b k) : ∀ z ∈ encI t b k, z < 256 := by
  intro z hz
  simp only [encI, List.mem_append, List.mem_cons] at hz
  rcases hz with (rfl | hz) | hz | hz
  · exact h.1
  · exact lenB_lt _ z hz
  · exact h.2.1.1.2.2.1 z hz
  · exact kin_enc8 h.2.2 z hz
def WrIs (B : Nat) (v : Value) (n : Nat) (xs : List Nat) (t : Nat) (b : List Nat) (k : Tr) (w : World) (e : Ending) (w' : World) : Prop :=
  ∃ v', e = .returned v' ∧ w'.ownsRow B 5 1 v' (n + (encI t b k).length) (bytesV (xs ++ encI t b k)) ∧ w.grownBy w' v.ownBlock ∧ (∀ g, v'.ownBlock = some g → v.ownBlock = some g ∨ w.heap.size ≤ g)
set_option maxRecDepth 100000 in
set_option maxHeartbeats 8000000 in
theorem write_any : ∀ (N : Nat) (k : Tr), k.sz < N → ∀ (W0 : World) (t : Nat) (b : List Nat) (a : Option Addr) (c : Nat) (a' : Option Addr) (c' : Nat), ItIn W0 t a c a' c' b k →
    ∀ (w : World), Below W0.heap.size W0 w → ∀ (v : Value) (n : Nat) (xs : List Nat), w.ownsRow W0.heap.size 5 1 v n (bytesV xs) → n + (encI t b k).length ≤ 1048576 → (encI t b k).length ≤ 65537 →
    Calls Tryz.prog 77 #[v, itV t a b.length c a' k.len c'] w (WrIs W0.heap.size v n xs t b k w) := by
  intro N
  induction N with
  | zero => intro k h; omega
  | succ N ih =>
    intro k hsz W0 t b a c a' c' hin0 w hW0 v n xs hown hbd hbd2
    have hin : ItIn w t a c a' c' b k := hin0.below hW0
    have HOWN := Lib.hid hown
    have hel := encI_length t b k
    have HEL := Lib.hid hel
    have HBD := Lib.hid hbd
    have HB2 := Lib.hid hbd2
    have HB := Lib.hid hin.2.1
    have HK := Lib.hid hin.2.2
    have ht := hin.1
    have IH := Lib.hid ih
    have HS := Lib.hid hsz
    have HW0 := Lib.hid hW0
    have hs0 := hW0.size
    have h0 := fun o => (Below.refl _ w).alloc (Nat.le_refl _) o
    obtain ⟨av, cv, rfl⟩ := own_slice hown
    have hkm : k.len ≤ 140737488355328 := hin.2.2.1.2.1
    have hWR := rangeAt_new w (.int .u8 (t : Nat)) (.slice a b.length c) (.slice a' k.len c') 45
    clear hin hin0 ih hsz hW0 hown hel hbd hbd2
    generalize hbn : b.length = bn at *
    generalize hkn : k.len = kn at *
    have HBN := Lib.hid hbn
    have HKN := Lib.hid hkn
    clear hbn hkn
    go_enter Tryz.func77, Tryz.ntmps77
    have H0 := Lib.hid (h0 (.cells #[.int .u8 (t : Nat), .slice a bn c, .slice a' kn c'] 45))
    have hs1 : (w.alloc (.cells #[.int .u8 (t : Nat), .slice a bn c, .slice a' kn c'] 45)).heap.size = w.heap.size + 1 := by simp
    have HS1 := Lib.hid hs1
    clear hs1
    generalize hW1 : w.alloc (.cells #[.int .u8 (t : Nat), .slice a bn c, .slice a' kn c'] 45) = W1 at *
    have HWR := Lib.hid hWR
    have k1 : W1.cell? ⟨w.heap.size, 0 + 1, none⟩ = some (.slice a bn c) := hWR 1 _ rfl
    have HB1 := Lib.hid (HB.out.below H0.out)
    clear hWR
    go_wp2_with (first | (at_builtin; refine wpList_append_at rfl (.tmp 8) (.tmp 10) rfl W1.heap.size (.slice none 0 0) 0 [] rfl (World.ownsRow_nil _ _ _ _) a bn c b rfl HB1.out (by have := HB1.out.2.2.2.1; omega) (Nat.le_refl _) ?_; intro hv W2 hown2 hgr2 hat2; have HO2 := Lib.hid hown2; have HG2 := Lib.hid (((Below.refl _ W1).grown hgr2 (Nat.le_refl _) (by intro x hx; cases hx))); have k2 := (HG2.out.cell (World.block_lt_of_cell? W1 _ (HWR.out 2 _ rfl))).trans (HWR.out 2 _ rfl); clear hown2 hgr2 hat2))
    clear hW1
    rw [Nat.zero_add, List.nil_append] at HO2
    go_loopw [5, 15] (fun h i wr => ∃ (A r : Tr) (j : Nat), k = A.app r ∧ A.len = j ∧ i = .int .i64 (j : Nat) ∧ wr.ownsRow W1.heap.size 5 1 h (bn + A.enc.length) (bytesV (b ++ A.enc)) ∧ Below W1.heap.size W1 wr) (fun _ i _ => kn - (intOf i).toNat)
    case atStart => exact ⟨.nil, k, 0, rfl, rfl, rfl, by simpa [Tr.enc] using HO2.out, HG2.out⟩
    case round =>
      obtain ⟨A, r, j, hA, hj, rfl, hown, hbel⟩ := hrel
      have hlen : j + r.len = kn := by rw [← HKN.out, hA, Tr.len_app, hj]
      have HA := Lib.hid hA
      have HJ := Lib.hid hj
      have HOH := Lib.hid hown
      have HBW := Lib.hid (H0.out.trans (hbel.mono H0.out.size))
      clear hA hj hown
      by_cases hjk : j < kn
      · have hji : (j : Int) < (kn : Int) := by omega
        obtain ⟨t1, b1, k1', r1, rfl⟩ := Tr.len_pos (T := r) (by omega)
        obtain ⟨b', o', rfl, hrow⟩ := HK.out.2.resolve_left (by have := HKN.out; omega)
        have hszk : k1'.sz < N := by
          have h1 := Tr.sz_app A (.node t1 b1 k1' r1)
          rw [← HA.out] at h1
          have h2 := HS.out
          simp only [Tr.sz] at h1; omega
        rw [HA.out] at hrow
        have hrow2 := (Row.append hrow).2
        rw [show o' + 3 * A.len = o' + j * 3 by rw [HJ.out]; omega] at hrow2
        obtain ⟨a1, cc1, a2, cc2, hra, hit, _⟩ := (Row.below H0.out hrow2).head
        have HR := Lib.hid (rangeAt_below hra hbel)
        have hel1 : k.enc.length = A.enc.length + ((encI t1 b1 k1').length + r1.enc.length) := by rw [HA.out, Tr.enc_app, enc_node]; simp
        have hel2 : bn + A.enc.length + (encI t1 b1 k1').length ≤ 1048576 := by have := HEL.out; have := HBD.out; omega
        have hbx : Below W1.heap.size W1 (wr.alloc (.cells #[.int .u8 (t1 : Nat), .slice a1 b1.length cc1, .slice a2 k1'.len cc2] 45)) := hbel.alloc hbel.size _
        have hoH := HOH.out
        have HC := Lib.hid (IH.out k1' hszk W1 t1 b1 a1 cc1 a2 cc2 hit _ hbx _ _ _ (hoH.alloc (.cells #[.int .u8 (t1 : Nat), .slice a1 b1.length cc1, .slice a2 k1'.len cc2] 45)) hel2 (by have := HEL.out; have := HB2.out; omega))
        have hbl : ∀ g, u5.ownBlock = some g → W1.heap.size ≤ g := fun g hg => (hoH.lt g hg).1
        have HBX := Lib.hid hbx
        have HNX := Lib.hid (show bn + A.enc.length + (encI t1 b1 k1').length = bn + (A.app (.node t1 b1 k1' .nil)).enc.length by rw [Tr.enc_app, enc_one, List.length_append]; omega)
        have HYX := Lib.hid (show b ++ A.enc ++ encI t1 b1 k1' = b ++ (A.app (.node t1 b1 k1' .nil)).enc by rw [Tr.enc_app, enc_one, List.append_assoc])
        clear hrow hrow2 hra hit hel1 hel2 hbx hoH
        go_wp2_with (first | (refine ldI rfl (.tmp 17) rfl b' (o' + j * 3) rfl _ _ _ HR.out ?_) | (go_at_call 77; (refine HC.out.mono ?_); rintro e w3 ⟨hv3, rfl, hown3, hgr3, hat3⟩))
        have hb4 : Below W1.heap.size W1 w3 := HBX.out.grown hgr3 HBX.out.size hbl
        rw [HNX.out, HYX.out] at hown3
        go_roundw
        case rel => exact ⟨A.app (.node t1 b1 k1' .nil), r1, j + 1, by rw [HA.out, Tr.app_assoc]; rfl, by rw [Tr.len_app, HJ.out]; rfl, by go_num, hown3, hb4⟩
        case measure => simp [intOf]; omega
      · have hr0 := Tr.len_zero (T := r) (by omega)
        have hji : ¬ (j : Int) < (kn : Int) := by omega
        have hkA : k = A := by rw [HA.out, hr0, Tr.app_nil]
        have HOK := Lib.hid (show wr.ownsRow W1.heap.size 5 1 u5 (bn + k.enc.length) (bytesV (b ++ k.enc)) by rw [hkA]; exact HOH.out)
        have k0 : wr.cell? ⟨w.heap.size, 0 + 0, none⟩ = some (.int .u8 (t : Nat)) := rangeAt_below HWR.out hbel 0 _ rfl
        have HV := Lib.hid (own_below (own_below HOWN.out HBW.out) ((Below.refl _ wr).alloc (Nat.le_refl _) (.cells #[.int .u8 (t : Nat)] 5)))
        have hvb : ∀ g, (Value.slice av n cv).ownBlock = some g → W0.heap.size ≤ g ∧ g < w.heap.size := fun g hg => HOWN.out.lt g hg
        have HVB := Lib.hid hvb
        have hhb : ∀ g, u5.ownBlock = some g → W1.heap.size ≤ g ∧ g < wr.heap.size := fun g hg => HOK.out.lt g hg
        have HHB := Lib.hid hhb
        have hl1 : bn + k.enc.length ≤ 65537 := by have := HEL.out; have := HB2.out; omega
        have hfin : xs ++ [t] ++ lenB (bn + k.enc.length) ++ (b ++ k.enc) = xs ++ encI t b k := by simp [encI, HBN.out]
        have hfl : n + 1 + (lenB (bn + k.enc.length)).length + (bn + k.enc.length) = n + (encI t b k).length := by have := HEL.out; omega
        have HFIN := Lib.hid hfin
        have HFL := Lib.hid hfl
        have hsm : n + (lenB (bn + k.enc.length)).length + 1000000 ≤ 140737488355328 := by have := HBD.out; have := lenB_len (bn + k.enc.length); omega
        have HSM := Lib.hid hsm
        have HH1 := Lib.hid hl1
        obtain ⟨ah, ch, rfl⟩ := own_slice HOK.out
        have h8 : ∀ z ∈ b ++ k.enc, z < 256 := by
          intro z hz
          rcases List.mem_append.1 hz with hz | hz
          · exact HB.out.1.2.2.1 z hz
          · exact kin_enc8 HK.out z hz
        have H8 := Lib.hid h8
        clear hr0 hkA hvb hhb hfin hfl hsm hl1 h8 HOH
        generalize bn + k.enc.length = hl at *
        have hbase : W0.heap.size ≤ wr.heap.size := by have := HBW.out.size; omega
        go_wp2_with (first | (at_builtin; refine wpList_append_at rfl (.tmp 23) (.tmp 26) rfl W0.heap.size (.slice av n cv) n xs rfl HV.out (some ⟨wr.heap.size, 0, none⟩) 1 1 [t] rfl (bin_one wr t ht) (by have := HSM.out; omega) (by simp only [World.size_alloc]; omega) ?_; intro v1 w3 ho1 hg1 ha1; have HO1 := Lib.hid ho1; have HG1 := Lib.hid hg1; have HA1 := Lib.hid ha1; have HK3 := Lib.hid (kept_apart (HOK.out.alloc (.cells #[.int .u8 (t : Nat)] 5)) hg1 (fun g h1 h2 => (by have h3 := HHB.out g h1; have h4 := HVB.out g h2; have h5 := HS1.out; omega))); clear ho1 hg1 ha1) | (go_at_call 106; (refine (ofLength_any hl HH1.out _).mono ?_); rintro e w4 ⟨vb, rfl, hob, hb4⟩; obtain ⟨ab, cb, rfl⟩ := own_slice hob; have HO14 := Lib.hid (own_below HO1.out hb4); have HK4 := Lib.hid (own_below HK3.out hb4); have HOB := Lib.hid hob; clear hob; obtain ⟨ab', cb', eb, hbl, _⟩ := own_in HOB.out (lenB_lt hl) (by have := HSM.out; omega); injection eb with eb1 eb2 eb3; subst eb1 eb3; have HBL := Lib.hid hbl; clear hbl) | (at_builtin; refine wpList_append_at rfl (.tmp 28) (.tmp 31) rfl W0.heap.size v1 (n + 1) (xs ++ [t]) rfl HO14.out ab (lenB hl).length cb (lenB hl) rfl HBL.out (by have := HSM.out; omega) (by have h1 := hb4.size; have h2 := HG1.out.size; simp only [World.size_alloc] at h2; omega) ?_; intro v2 w5 ho2 hg2 ha2; have HO5 := Lib.hid ho2; have HG2' := Lib.hid hg2; have HA2 := Lib.hid ha2; have HK5 := Lib.hid (kept_apart HK4.out hg2 (fun g h1 h2 => (by have h3 := HHB.out g h1; have h6 := HS1.out; rcases HA1.out g h2 with h4 | h4; (have h5 := HVB.out g h4; omega); (simp only [World.size_alloc] at h4; omega)))); clear ho2 hg2 ha2; obtain ⟨ah', ch', eh, hbh, _⟩ := own_in HK5.out H8.out (by have := HH1.out; omega); injection eh with eh1 eh2 eh3; subst eh1 eh3; have HBH := Lib.hid hbh; clear hbh) | (at_builtin; refine wpList_append_at rfl (.tmp 33) (.tmp 34) rfl W0.heap.size v2 (n + 1 + (lenB hl).length) (xs ++ [t] ++ lenB hl) rfl HO5.out ah hl ch (b ++ k.enc) rfl HBH.out (by have := HSM.out; have := HH1.out; omega) (by have h1 := hb4.size; have h2 := HG1.out.size; have h3 := HG2'.out.size; simp only [World.size_alloc] at h2; omega) ?_; intro v3 w6 ho3 hg3 ha3))
        go_ret
        have g0 : w.grownBy (wr.alloc (.cells #[.int .u8 (t : Nat)] 5)) (Value.slice av n cv).ownBlock := grown_below (HBW.out.alloc HBW.out.size _) _
        have hw1 : w.heap.size ≤ (wr.alloc (.cells #[.int .u8 (t : Nat)] 5)).heap.size := g0.size
        have g1 := grown_step g0 HG1.out (fun g hg => .inl hg)
        have g2 := grown_step g1 (grown_below hb4 none) (fun g hg => by cases hg)
        have a1 : ∀ g, v1.ownBlock = some g → (Value.slice av n cv).ownBlock = some g ∨ w.heap.size ≤ g := fun g hg => (HA1.out g hg).imp id (fun h => by omega)
        have g3 := grown_step g2 HG2'.out a1
        have a2' : ∀ g, v2.ownBlock = some g → (Value.slice av n cv).ownBlock = some g ∨ w.heap.size ≤ g := fun g hg => by
          rcases HA2.out g hg with h | h
          · exact a1 g h
          · exact .inr (Nat.le_trans g2.size h)
        have g4 := grown_step g3 hg3 a2'
        have a3' : ∀ g, v3.ownBlock = some g → (Value.slice av n cv).ownBlock = some g ∨ w.heap.size ≤ g := fun g hg => by
          rcases ha3 g hg with h | h
          · exact a2' g h
          · exact .inr (Nat.le_trans g3.size h)
        rw [HFIN.out, HFL.out] at ho3
        exact ⟨v3, rfl, ho3, g4, a3'⟩
end Go.Proofs.YtbabpmncdphnjaaGreat
