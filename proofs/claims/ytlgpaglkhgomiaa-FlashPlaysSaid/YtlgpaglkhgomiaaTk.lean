/- What a telling of blocks is. No condition. -/
import Derived.Test.YtlgpaglkhgomiaaSk
import Derived.Test.YtlgpaglkhgomiaaNb
namespace Go.Proofs.Ytlgpaglkhgomiaa
open Go.RowKit Go.Maps
set_option linter.unusedVariables false
set_option maxRecDepth 100000
set_option linter.unusedSimpArgs false
theorem int_keys {H : Type} {w : World} {R : Value → Option (DataW H × List MemPlace)} {b n : Nat} {D : DataW H} (hown : w.ownsMap Try.prog 3 R b n D) : (intKeys D).Nodup ∧ ∀ x, x ∈ intKeys D ↔ Maps.has D (.int .i64 x) = true := by
  obtain ⟨es, rfl, hpw⟩ := hown.tidy lawK
  obtain ⟨es', hD', hko⟩ := hown.keysOf
  injection hD' with hD'
  subst hD'
  have hk : ∀ p ∈ es, ∃ x, p.1 = .int .i64 x := fun p hp => by
    obtain ⟨v, hv⟩ := hko p hp
    obtain ⟨x, _, hx, _⟩ := Maps.keyOf_i64 Try.underlying3 hv
    exact ⟨x, hx⟩
  refine ⟨?_, fun x => ?_⟩
  · show (es.map fun p => Go.intOf p.1).Nodup
    refine List.pairwise_map.2 (hpw.imp_of_mem fun {p q} hp' hq' hne e => hne ?_)
    obtain ⟨a, ha⟩ := hk p hp'
    obtain ⟨b, hb⟩ := hk q hq'
    rw [ha, hb] at e ⊢
    exact congrArg _ e
  · rw [Maps.has_eq, List.any_eq_true]
    show x ∈ es.map (fun p => Go.intOf p.1) ↔ _
    rw [List.mem_map]
    constructor
    · rintro ⟨p, hp', rfl⟩
      obtain ⟨a, ha⟩ := hk p hp'
      exact ⟨p, hp', by rw [ha]; simp [Lit.sameKey, Go.intOf]⟩
    · rintro ⟨p, hp', hs⟩
      obtain ⟨a, ha⟩ := hk p hp'
      rw [ha] at hs
      exact ⟨p, hp', by rw [ha]; simpa [Lit.sameKey, Go.intOf] using hs⟩
theorem told_keys {H : Type} {w : World} {R : Value → Option (DataW H × List MemPlace)} {b n : Nat} {D : DataW H} (hown : w.ownsMap Try.prog 3 R b n D) {ss : List Int} (hp : ss.Perm (intKeys D)) :
    (ss.mergeSort (fun x y => decide (x ≤ y))).Pairwise (· < ·) ∧ (∀ x, x ∈ ss.mergeSort (fun x y => decide (x ≤ y)) ↔ Maps.has D (.int .i64 x) = true) ∧ (ss.mergeSort (fun x y => decide (x ≤ y))).length = Maps.size D := by
  obtain ⟨h1, h2⟩ := int_keys hown
  have hq := (List.mergeSort_perm ss (fun x y => decide (x ≤ y))).trans hp
  have hle := List.pairwise_mergeSort (le := fun (x y : Int) => decide (x ≤ y)) (fun a b c h1 h2 => by simp only [decide_eq_true_eq] at *; omega) (fun a b => by simp only [Bool.or_eq_true, decide_eq_true_eq]; omega) ss
  refine ⟨?_, fun x => by rw [hq.mem_iff, h2], ?_⟩
  · have hnd := hq.nodup_iff.2 h1
    exact (List.Pairwise.and hle hnd).imp (fun {a b} ⟨h3, h4⟩ => by simp only [decide_eq_true_eq] at h3; have : a ≠ b := h4; omega)
  · rw [hq.length_eq]
    obtain ⟨es, rfl, _⟩ := hown.tidy lawK
    show (es.map _).length = es.length
    simp
/-- the blocks are told in rising order -/
def Told (hs : Int → Bool) (c : Int → List Nat) (bs : List BlkR) : Prop := (bs.map BlkR.N).Pairwise (· < ·) ∧ (∀ x, x ∈ bs.map BlkR.N ↔ I64 x ∧ hs x = true) ∧ ∀ b ∈ bs, b.l = c b.N
theorem rise_eq : ∀ {l l' : List Int}, l.Pairwise (· < ·) → l'.Pairwise (· < ·) → (∀ x, x ∈ l ↔ x ∈ l') → l = l'
  | [], [], _, _, _ => rfl
  | [], y :: r, _, _, h => by have := (h y).2 (by simp); cases this
  | y :: r, [], _, _, h => by have := (h y).1 (by simp); cases this
  | x :: r, y :: s, h1, h2, h => by
    obtain ⟨a1, a2⟩ := List.pairwise_cons.1 h1
    obtain ⟨b1, b2⟩ := List.pairwise_cons.1 h2
    have e : x = y := by
      rcases List.mem_cons.1 ((h x).1 (by simp)) with e | e
      · exact e
      · rcases List.mem_cons.1 ((h y).2 (by simp)) with f | f
        · exact f.symm
        · have := b1 x e; have := a1 y f; omega
    subst e
    rw [rise_eq a2 b2 (fun z => ?_)]
    constructor
    · intro hz
      have := a1 z hz
      rcases List.mem_cons.1 ((h z).1 (by simp [hz])) with f | f
      · omega
      · exact f
    · intro hz
      have := b1 z hz
      rcases List.mem_cons.1 ((h z).2 (by simp [hz])) with f | f
      · omega
      · exact f
theorem told_eq {hs : Int → Bool} {c : Int → List Nat} {bs bs' : List BlkR} (h : Told hs c bs) (h' : Told hs c bs') : bs.map BlkR.key = bs'.map BlkR.key := by
  have hN : bs.map BlkR.N = bs'.map BlkR.N := rise_eq h.1 h'.1 (fun x => (h.2.1 x).trans (h'.2.1 x).symm)
  have e : ∀ l : List BlkR, (∀ b ∈ l, b.l = c b.N) → l.map BlkR.key = (l.map BlkR.N).map fun x => (x, c x) := by
    intro l hl
    rw [List.map_map]
    exact List.map_congr_left (fun b hb => by simp [BlkR.key, hl b hb])
  rw [e bs h.2.2, e bs' h'.2.2, hN]
/-- blocks in arrays of their own -/
def TB (w : World) (base : Nat) (bs : List BlkR) : Prop := ∀ x ∈ bs, ∃ q, x.a = some ⟨q, 0, none⟩ ∧ x.n = 512 ∧ x.c = 512 ∧ Blk w q 70 (natsV .u8 x.l) ∧ IsB x.l ∧ I64 x.N ∧ base ≤ q
theorem TB.fr {w w' : World} {base : Nat} {bs : List BlkR} {F : Nat → Prop} (h : TB w base bs) (hf : Fr w w' F) (h1 : ∀ q cs, Blk w q 70 cs → ¬ F q) : TB w' base bs := fun x hx => by
  obtain ⟨q, e1, e2, e3, e4, r⟩ := h x hx
  exact ⟨q, e1, e2, e3, blk_fr e4 hf (h1 _ _ e4), r⟩
theorem TB.below {w w' : World} {base : Nat} {bs : List BlkR} (h : TB w base bs) (hb : Below w.heap.size w w') : TB w' base bs := h.fr (Fr.below hb : Fr w w' (fun _ => False)) (fun _ _ _ x => x)
theorem TB.lin {w : World} {base B : Nat} {bs : List BlkR} {a : Option Addr} {n c : Nat} (h : TB w base bs) (ho : w.ownsRow B 62 2 (.slice a n c) n (rowC bs)) (hn : bs.length = n) : LIn w a n bs := by
  refine ⟨hn, fun x hx => ?_, ?_⟩
  · obtain ⟨q, e1, e2, e3, e4, e5, e6, _⟩ := h x hx
    rw [e1, e2, e3]
    exact ⟨bin_blk e4 e5, e6⟩
  · rcases ho.2 with ⟨e, h0⟩ | ⟨g, cap, cur, e, hbg, hg, h1, h2, h3, h4⟩
    · exact .inl h0
    · injection e with e1 e2 e3
      refine .inr ⟨g, 0, e1, fun i x hx j u hu => ?_⟩
      have hlt : i < bs.length := (List.getElem?_eq_some_iff.1 hx).1
      have hj : j < 2 := (List.getElem?_eq_some_iff.1 hu).1
      subst e1
      have q := ho.cellAt (i * 2 + j) (by omega)
      rw [rowC_get bs i x j u hx hu] at q
      rw [← q, Nat.zero_add]
end Go.Proofs.Ytlgpaglkhgomiaa
