/- What 'take' leaves of a hash, told by plain lists; the laws its walk wants. No condition. -/
import Derived.Test.YtnikhnpigopihaaDoorHash
import Derived.Test.YtnikhnpigopihaaDoorGoes
import Derived.Laws.CopyOwn
namespace Go.Proofs.YtnikhnpigopihaaDoor
open Go.RowKit
set_option linter.unusedVariables false
/-- the hash at block g: kind k, n bytes taken, words s behind the whole blocks, t behind these -/
def HashAt (w : World) (g k n : Nat) (s t : List Nat) : Prop :=
  IsKind k ∧ n < 2 ^ 64 ∧ s.length = 8 ∧ (∀ x ∈ s, x < 2 ^ wW k) ∧ t.length = n % (2 * wW k) ∧ 2 ≤ g ∧
  ∃ r, r.length = 128 ∧ (∀ x ∈ r, x < 256) ∧ r.take t.length = t ∧ Blk w g 72 (hashV k n s r)
theorem bin_head {w : World} {b off n c f : Nat} {l : List Nat} (h : BIn w (some ⟨b, off, none⟩) n c l) (hf : f ≤ n) (hn : 0 < n) : BIn w (some ⟨b, off, none⟩) f c (l.take f) := by
  obtain ⟨⟨h1, h2, h3, h4⟩, h5, h6, h7, h8⟩ := h
  obtain ⟨b', o', he, hc⟩ := h4.resolve_left (by omega)
  injection he with he
  injection he with e1 e2
  subst e1 e2
  refine ⟨⟨by simp; omega, by omega, fun x hx => h3 x (List.mem_of_mem_take hx), .inr ⟨b, off, rfl, fun i hi => ?_⟩⟩, by omega, h6, by omega, fun h => by cases h⟩
  rw [hc i (by omega)]
  congr 3
  simp only [List.getD_eq_getElem?_getD, List.getElem?_take]
  rw [if_pos hi]
theorem BIn.grown {w w' : World} {a : Option Addr} {n c g : Nat} {l : List Nat} (h : BIn w a n c l) (hg : w.grownBy w' (some g)) (ha : ∀ b, a = some b → 0 < n → b.block ≠ g) : BIn w' a n c l := by
  obtain ⟨⟨h1, h2, h3, h4⟩, h5⟩ := h
  refine ⟨⟨h1, h2, h3, ?_⟩, h5⟩
  rcases h4 with h4 | ⟨b, off, rfl, hc⟩
  · exact .inl h4
  · exact .inr ⟨b, off, rfl, fun i hi => hg.cell (hc i hi) (fun e => by injection e with e; exact ha _ rfl (by omega) e)⟩
/-- the loop over whole blocks -/
def TakeRel (g k n : Nat) (s0 L : List Nat) (w : World) (v : Value) (wr : World) : Prop :=
  ∃ a m c l s r, v = .slice a m c ∧ BIn wr a m c l ∧ (∀ b, a = some b → 0 < m → b.block ≠ g) ∧ s.length = 8 ∧ (∀ x ∈ s, x < 2 ^ wW k) ∧ r.length = 128 ∧ (∀ x ∈ r, x < 256) ∧ Blk wr g 72 (hashV k n s r) ∧
    goes (wW k) s l = goes (wW k) s0 L ∧ w.grownBy wr (some g) ∧ Tabs wr
theorem wordFacts {w : World} {g k n a0 a1 a2 a3 a4 a5 a6 a7 : Nat} {r : List Nat} (h : Blk w g 72 (hashV k n [a0, a1, a2, a3, a4, a5, a6, a7] r)) :
    w.cell? ⟨g, 2, none⟩ = some (.int .u64 (a0 : Nat)) ∧ w.cell? ⟨g, 3, none⟩ = some (.int .u64 (a1 : Nat)) ∧ w.cell? ⟨g, 4, none⟩ = some (.int .u64 (a2 : Nat)) ∧ w.cell? ⟨g, 5, none⟩ = some (.int .u64 (a3 : Nat)) ∧
    w.cell? ⟨g, 6, none⟩ = some (.int .u64 (a4 : Nat)) ∧ w.cell? ⟨g, 7, none⟩ = some (.int .u64 (a5 : Nat)) ∧ w.cell? ⟨g, 8, none⟩ = some (.int .u64 (a6 : Nat)) ∧ w.cell? ⟨g, 9, none⟩ = some (.int .u64 (a7 : Nat)) ∧
    w.frozen? ⟨g, 2, none⟩ = false ∧ w.frozen? ⟨g, 3, none⟩ = false ∧ w.frozen? ⟨g, 4, none⟩ = false ∧ w.frozen? ⟨g, 5, none⟩ = false ∧ w.frozen? ⟨g, 6, none⟩ = false ∧ w.frozen? ⟨g, 7, none⟩ = false ∧ w.frozen? ⟨g, 8, none⟩ = false ∧ w.frozen? ⟨g, 9, none⟩ = false :=
  ⟨by rw [h.cell]; rfl, by rw [h.cell]; rfl, by rw [h.cell]; rfl, by rw [h.cell]; rfl, by rw [h.cell]; rfl, by rw [h.cell]; rfl, by rw [h.cell]; rfl, by rw [h.cell]; rfl, h.free _, h.free _, h.free _, h.free _, h.free _, h.free _, h.free _, h.free _⟩
theorem bin_drop {w : World} {b off n c f : Nat} {l : List Nat} (h : BIn w (some ⟨b, off, none⟩) n c l) (hf : f ≤ n) (hn : 0 < n) (A : Option Addr) (hA : A = some ⟨b, off, none⟩ ∧ n - f = 0 ∨ A = some ⟨b, off + f, none⟩) : BIn w A (n - f) (c - f) (l.drop f) := by
  by_cases h0 : n - f = 0
  · have h1 : l.drop f = [] := List.drop_of_length_le (by have := h.1.1; omega)
    rw [h1, h0]
    refine bin_empty w A (c - f) (by have := h.2.2.1; omega) (fun e => ?_)
    rcases hA with ⟨rfl, _⟩ | rfl <;> cases e
  · obtain rfl := hA.resolve_left (fun h => h0 h.2)
    exact bin_tail h (by omega)
theorem takeEnd {w wr w1 : World} {g k n m c b off sz : Nat} {s r t' l : List Nat} {A : Option Addr} (blk : Blk wr g 72 (hashV k n s r)) (hb : BIn wr (some ⟨b, off, none⟩) m c l) (ht : ∀ x ∈ t', x < 2 ^ wW k)
    (hr : r.length = 128) (hr2 : ∀ x ∈ r, x < 256) (hlt : sz ≤ m) (hm : 0 < m) (hab : b ≠ g) (hgr : w.grownBy wr (some g)) (htab : Tabs wr) (hg : 2 ≤ g) (hl : s.length = t'.length) (hA : A = some ⟨b, off, none⟩ ∧ m - sz = 0 ∨ A = some ⟨b, off + sz, none⟩)
    (hb1 : Below wr.heap.size wr w1) : Blk (w1.setCells g 2 (natsV .u64 t')) g 72 (hashV k n t' r) ∧ w.grownBy (w1.setCells g 2 (natsV .u64 t')) (some g) ∧ BIn (w1.setCells g 2 (natsV .u64 t')) A (m - sz) (c - sz) (l.drop sz) ∧
      (∀ x, A = some x → 0 < m - sz → x.block ≠ g) ∧ Tabs (w1.setCells g 2 (natsV .u64 t')) := by
  have hg1 := grown_trans (grown_below hb1 (some g)) (grown_setCells g (natsV .u64 t') 2 w1)
  have hAg : ∀ x, A = some x → 0 < m - sz → x.block ≠ g := by
    intro x hx _
    rcases hA with ⟨rfl, _⟩ | rfl <;> (injection hx with hx; subst hx; exact hab)
  exact ⟨hash_setWords (blk.below' hb1) hl, grown_trans hgr hg1, (bin_drop hb hlt hm A hA).grown hg1 hAg, hAg, htab.grown hg1 hg⟩
def lenOf : Value → Nat | .slice _ n _ => n | _ => 0
/-- what 'take' leaves -/
def TakeIs (g k n : Nat) (s l : List Nat) (w : World) (e : Ending) (w' : World) : Prop := e = .returned (.tuple #[]) ∧ HashAt w' g k (n % 2 ^ 64) (goes (wW k) s l).1 (goes (wW k) s l).2 ∧ w.grownBy w' (some g)

theorem wpList_copy_blk {P : Program} {w : World} {ops : Array Oper} {rest : List Oper} {o : Oper} {a : Act} {Q : Exit → Act → World → Prop} (hgd : o.guard = none) (d s : Operand) (dT sT : TypeId)
    (ho : o.op = .call { callee := .builtin .copy, args := #[d, s], argTypes := #[dT, sT] }) (elem : TypeId) (hu : P.underlying dT = some (.slice elem)) (hsz : (P.info? elem).map (·.size) = some 1)
    (dp sp : Option Addr) (dLen dCap sLen sCap : Nat) (hd : a.eval d = .slice dp dLen dCap) (hs : a.eval s = .slice sp sLen sCap)
    (g off : Nat) (cur : List Value) (t : TypeId) (hg : Blk w g t cur) (cs : List Value) (hn : cs.length = Nat.min sLen dLen)
    (hpos : 0 < cs.length → dp = some ⟨g, off, none⟩ ∧ ∃ ad, sp = some ad ∧ ∀ j v, cs[j]? = some v → w.cell? (ad.add j) = some v)
    (hfit : off + cs.length ≤ cur.length) (h1 : ∀ v ∈ cs, v.oneCell' = true)
    (h : ∀ w', Blk w' g t (splice cur off cs) → w.grownBy w' (some g) → wpList P ops Q rest (a.put o.dst (goInt cs.length)) w') :
    wpList P ops Q (o :: rest) a w := by
  by_cases h0 : cs.length = 0
  · obtain rfl : cs = [] := List.eq_nil_of_length_eq_zero h0
    refine wpList_copy_nothing hgd d s dT sT ho elem hu hsz dp sp dLen dCap sLen sCap hd hs (by simpa using hn.symm) ?_
    exact h w (by simpa [splice] using hg) (grown_refl w _)
  · obtain ⟨rfl, ad, rfl, hsrc⟩ := hpos (by omega)
    refine wpList_copy_own hgd d s dT sT ho elem hu hsz g off dLen dCap ad sLen sCap hd hs cur.toArray t hg cs hn hsrc (by simpa using hfit) h1 ?_
    exact h _ (by have := setRow_heap w g _ (cur.toArray.toList.take off ++ (cs ++ cur.toArray.toList.drop (off + cs.length))).toArray t _ hg; unfold Blk; simpa [splice] using this) (grown_setRow w g _)
theorem natsV_append (k : IntKind) (a b : List Nat) : natsV k (a ++ b) = natsV k a ++ natsV k b := by simp [natsV]
theorem natsV_take (k : IntKind) (a : List Nat) (i : Nat) : (natsV k a).take i = natsV k (a.take i) := by simp [natsV, List.map_take]
theorem natsV_drop (k : IntKind) (a : List Nat) (i : Nat) : (natsV k a).drop i = natsV k (a.drop i) := by simp [natsV, List.map_drop]
theorem hash_splice (k n : Nat) (s r l : List Nat) (i : Nat) (hs : s.length = 8) : splice (hashV k n s r) (10 + i) (natsV .u8 l) = hashV k n s (splice r i l) := by
  have e : hashV k n s r = (.int .u8 (k : Nat) :: .int .u64 (n : Nat) :: natsV .u64 s) ++ natsV .u8 r := rfl
  have hl : (Value.int .u8 (k : Nat) :: Value.int .u64 (n : Nat) :: natsV .u64 s).length = 10 := by simp [natsV_length, hs]
  have e2 : ∀ x : List Nat, hashV k n s x = (Value.int .u8 (k : Nat) :: .int .u64 (n : Nat) :: natsV .u64 s) ++ natsV .u8 x := fun _ => rfl
  unfold splice
  rw [e2 r, e2 (r.take i ++ (l ++ r.drop (i + l.length))), natsV_append, natsV_append, ← natsV_take, ← natsV_drop, natsV_length]
  generalize (Value.int .u8 (k : Nat) :: Value.int .u64 (n : Nat) :: natsV .u64 s) = H at *
  rw [show 10 + i + l.length = 10 + (i + l.length) by omega, ← hl, List.take_length_add_append, List.drop_length_add_append, List.append_assoc]
theorem pow64_mod (W x : Nat) (hW : W = 32 ∨ W = 64) : x % 2 ^ 64 % (2 * W) = x % (2 * W) := by
  rcases hW with rfl | rfl <;> omega
theorem takeFin {w : World} {g k n m : Nat} {s s0 t l L r : List Nat} (hk : IsKind k) (hs : s.length = 8) (hx : ∀ x ∈ s, x < 2 ^ wW k) (hg : 2 ≤ g) (ht : t.length = n % (2 * wW k)) (hm : L.length = m)
    (hgo : goes (wW k) s l = goes (wW k) s0 (t ++ L)) (hl : l.length < 2 * wW k) (hlb : ∀ x ∈ l, x < 256) (hr : r.length = 128) (hr2 : ∀ x ∈ r, x < 256) (blk : Blk w g 72 (hashV k ((n + m) % 2 ^ 64) s (splice r 0 l))) :
    HashAt w g k ((n + m) % 2 ^ 64) (goes (wW k) s0 (t ++ L)).1 (goes (wW k) s0 (t ++ L)).2 := by
  have hW : 2 * wW k ≤ 128 ∧ 0 < wW k := by unfold wW; split <;> omega
  have h1 := goes_tail hW.2 _ s0 (t ++ L) rfl
  rw [← hgo, goes_lo hl] at h1 ⊢
  refine ⟨hk, Nat.mod_lt _ (by decide), hs, hx, ?_, hg, splice r 0 l, ?_, ?_, ?_, blk⟩
  · show l.length = _
    rw [show l.length = _ from h1, List.length_append, ht, hm, pow64_mod _ _ (wW_or k), Nat.mod_add_mod]
  · rw [length_splice _ _ _ (by omega)]; exact hr
  · intro x hx
    unfold splice at hx
    simp only [List.take_zero, List.nil_append, Nat.zero_add] at hx
    rcases List.mem_append.1 hx with h | h
    · exact hlb x h
    · exact hr2 x (List.mem_of_mem_drop h)
  · show (splice r 0 l).take l.length = l
    unfold splice; simp
theorem src_cells {w : World} {a : Option Addr} {m c : Nat} {l : List Nat} (h : BIn w a m c l) (j : Nat) (hj : j ≤ m) : 0 < (natsV .u8 (l.take j)).length → ∃ ad, a = some ad ∧ ∀ i v, (natsV .u8 (l.take j))[i]? = some v → w.cell? (ad.add i) = some v := by
  intro h0
  rw [natsV_length, List.length_take] at h0
  obtain ⟨b, off, rfl, hc⟩ := h.1.2.2.2.resolve_left (by omega)
  refine ⟨⟨b, off, none⟩, rfl, fun i v hv => ?_⟩
  have hi : i < (natsV .u8 (l.take j)).length := (List.getElem?_eq_some_iff.1 hv).1
  rw [natsV_length, List.length_take, h.1.1] at hi
  have e : (⟨b, off, none⟩ : Addr).add i = ⟨b, off + i, none⟩ := by unfold Addr.add; split <;> simp_all
  rw [e, hc i (by omega), ← hv, natsV_get _ _ _ (by rw [List.length_take, h.1.1]; omega)]
  congr 3
  simp only [List.getD_eq_getElem?_getD, List.getElem?_take]
  rw [if_pos (by omega)]
theorem info5s : (Tryd.prog.info? 5).map (·.size) = some 1 := by kernel_rfl
end Go.Proofs.YtnikhnpigopihaaDoor
