/- The two flashes side by side; a write to both. Condition: sizes. -/
import Derived.Test.YtlgpaglkhgomiaaPo
import Derived.Test.YtlgpaglkhgomiaaRe
import Derived.Test.YtlgpaglkhgomiaaRc
namespace Go.Proofs.Ytlgpaglkhgomiaa
open Go.RowKit
set_option linter.unusedVariables false
set_option maxRecDepth 100000
set_option linter.unusedSimpArgs false
structure SR where
  f : Nat
  mb : Nat
  r : Nat
  p : Nat
  N : Int
  on : Bool
  cut : Int
  dn : Bool
  wr : Int
  bs : List BlkR
  ans : List AnsR
  K : Nat
def BlkR.b (b : BlkR) : Option Nat := (Value.slice b.a b.n b.c).ownBlock
/-- both flashes hold the same -/
structure Good (w : World) (base i : Nat) (s : SR) : Prop where
  fl : FlB w s.f s.mb s.N s.on s.cut s.dn s.wr
  mp : MAt w s.mb s.K (hB s.bs) (cOf s.bs)
  rf : RfAt w base s.r s.N (!s.on) s.cut s.dn s.wr s.bs
  pr : PRow w base s.p (.pointer (some ⟨s.f, 0, none⟩)) (.pointer (some ⟨s.r, 0, none⟩)) s.ans
  an : PAns w s.ans
  dj : ∀ x ∈ s.ans, ∀ b ∈ s.bs, ∀ j, x.b = some j → b.b ≠ some j
  lo : base ≤ s.f ∧ base ≤ s.mb ∧ base ≤ s.r ∧ base ≤ s.p ∧ base ≤ w.heap.size ∧ ∀ x ∈ s.ans, ∀ j, x.b = some j → base ≤ j
  nb : 1 ≤ s.N ∧ s.N ≤ 1048576 ∧ 0 ≤ s.cut ∧ s.cut ≤ 9223372036854775807 ∧ 0 ≤ s.wr ∧ s.wr ≤ i ∧ s.K ≤ 1048576 + i ∧ s.ans.length ≤ i
theorem RfAt.dblk {w : World} {base r : Nat} {N left many : Int} {off dn : Bool} {bs : List BlkR} (h : RfAt w base r N off left dn many bs) {b : BlkR} (hb : b ∈ bs) {j : Nat} (hj : b.b = some j) : ∃ cs, Blk w j 5 cs := by
  obtain ⟨⟨a, c, h1, h2⟩, _⟩ := h
  obtain ⟨cs, hc, _⟩ := own_blk (h2.2 b hb).1.1 hj
  exact ⟨cs, hc⟩
theorem RfAt.rblk {w : World} {base r : Nat} {N left many : Int} {off dn : Bool} {bs : List BlkR} (h : RfAt w base r N off left dn many bs) : ∃ cs, Blk w r 46 cs := by
  obtain ⟨⟨a, c, h1, h2⟩, _⟩ := h
  exact ⟨_, h1⟩
theorem PAns.fr {w w' : World} {ans : List AnsR} {F : Nat → Prop} (h : PAns w ans) (hf : Fr w w' F) (hF : ∀ x ∈ ans, ∀ j, x.b = some j → ¬ F j) : PAns w' ans := ⟨fun x hx => (h.1 x hx).fr hf (hF x hx), h.2⟩
theorem Good.fr {w w' : World} {base i : Nat} {s : SR} {F : Nat → Prop} (h : Good w base i s) (hf : Fr w w' F) (h1 : ∀ j t cs, Blk w j t cs → t ≠ 5 → t ≠ 70 → ¬ F j) (hm : ¬ F s.mb) (hd : ∀ b ∈ s.bs, ∀ j, b.b = some j → ¬ F j) (ha : ∀ x ∈ s.ans, ∀ j, x.b = some j → ¬ F j) : Good w' base i s where
  fl := blk_fr h.fl hf (h1 _ _ _ h.fl (by decide) (by decide))
  mp := map_fr h.mp hf hm
  rf := h.rf.fr hf (fun j t cs hb ht => h1 j t cs hb (by rcases ht with rfl | rfl <;> decide) (by rcases ht with rfl | rfl <;> decide)) hd
  pr := h.pr.fr hf (fun j ⟨t, cs, hb, ht⟩ => h1 j t cs hb (by rcases ht with rfl | rfl | rfl <;> decide) (by rcases ht with rfl | rfl | rfl <;> decide))
  an := h.an.fr hf ha
  dj := h.dj
  lo := ⟨h.lo.1, h.lo.2.1, h.lo.2.2.1, h.lo.2.2.2.1, Nat.le_trans h.lo.2.2.2.2.1 hf.size, h.lo.2.2.2.2.2⟩
  nb := h.nb
theorem Good.below {w w' : World} {base i : Nat} {s : SR} (h : Good w base i s) (hb : Below w.heap.size w w') : Good w' base i s :=
  h.fr (Fr.below hb : Fr w w' (fun _ => False)) (fun _ _ _ _ _ _ x => x) (fun x => x) (fun _ _ _ _ x => x) (fun _ _ _ _ x => x)
/-- what a write does: the error, whether the power is on, the writes up to the cut, whether the block is put -/
def wrOut (N : Int) (on : Bool) (cut : Int) (dn : Bool) (n : Int) (k : Nat) : Int × Bool × Int × Bool :=
  if on = false then (143, on, cut, false) else if ¬ (0 ≤ n ∧ n < N) then (141, on, cut, false) else if k ≠ 512 then (142, on, cut, false) else if cut = 1 then (143, false, 0, dn) else (0, on, if cut = 0 then 0 else cut - 1, true)
def putIf (t : Bool) (c : Int → List Nat) (n : Int) (l : List Nat) : Int → List Nat := if t = true then upC c n l else c
def hsIf (t : Bool) (hs : Int → Bool) (n : Int) (l : List Nat) : Int → Bool := if t = true then setB hs n l else hs
def FWr (f mb K : Nat) (N : Int) (dn : Bool) (wr n : Int) (hs : Int → Bool) (c : Int → List Nat) (l : List Nat) (o : Int × Bool × Int × Bool) (w : World) (e : Ending) (w' : World) : Prop :=
  e = .returned (.int .i64 o.1) ∧ FlB w' f mb N o.2.1 o.2.2.1 dn (if o.2.2.2 = true then wr + 1 else wr) ∧ MAt w' mb (K + 1) (hsIf o.2.2.2 hs n l) (putIf o.2.2.2 c n l) ∧ Fr w w' (fun j => j = f ∨ j = mb)
theorem fwrite_any (f mb K : Nat) (N cut wr n : Int) (on dn : Bool) (hs : Int → Bool) (c : Int → List Nat) (A : Option Addr) (k cp : Nat) (l : List Nat) (w : World) (h : FlB w f mb N on cut dn wr) (hm : MAt w mb K hs c) (hb : BIn w A k cp l) (hN : N ≤ 1048576) (hc : 0 ≤ cut ∧ cut ≤ 9223372036854775807) (hw : 0 ≤ wr ∧ wr ≤ 4611686018427387904) (hK : K ≤ 1000000000000) (hne : ∀ q, A = some q → 0 < k → q.block ≠ f) :
    Calls Try.prog 22 #[.pointer (some ⟨f, 0, none⟩), .int .i64 n, .slice A k cp] w (FWr f mb K N dn wr n hs c l (wrOut N on cut dn n k) w) := by
  unfold FWr wrOut
  cases on with
  | false =>
    rw [if_pos rfl]
    refine (write_no f mb N cut wr n false dn (.slice A k cp) w h 143 (by simp [clE]) (by decide)).mono ?_
    rintro e w' ⟨rfl, rfl⟩
    exact ⟨rfl, h, hm.mono (Nat.le_succ _), Fr.refl _ _⟩
  | true =>
    rw [if_neg (by simp)]
    by_cases hr : 0 ≤ n ∧ n < N
    · rw [if_neg (fun h => h hr)]
      by_cases hk : k = 512
      · subst hk
        rw [if_neg (by simp)]
        have hne' : ∀ q, A = some q → q.block ≠ f := fun q hq => hne q hq (by omega)
        by_cases h1 : cut = 1
        · subst h1
          rw [if_pos rfl]
          cases dn with
          | true =>
            refine (write_end f mb K N wr n hs c A cp l w h hm hr.1 hr.2 hN hb hne' (by unfold maxLen; omega) hw.1 hw.2).mono ?_
            rintro e w' ⟨rfl, h1, h2, h3⟩
            exact ⟨rfl, h1, h2, h3⟩
          | false =>
            refine (write_lost f mb K N wr n hs c A cp w h hm hr.1 hr.2 hN).mono ?_
            rintro e w' ⟨rfl, h1, h2, h3⟩
            exact ⟨rfl, h1, h2.mono (Nat.le_succ _), h3⟩
        · rw [if_neg h1]
          refine (write_go f mb K N cut wr n dn hs c A cp l w h hm hr.1 hr.2 hN hb hne' (by unfold maxLen; omega) hw.1 hw.2 (if cut = 0 then 0 else cut - 1) ?_).mono ?_
          · by_cases h0 : cut = 0
            · exact .inl ⟨h0, by rw [if_pos h0]⟩
            · exact .inr ⟨by omega, hc.2, by rw [if_neg h0]⟩
          · rintro e w' ⟨rfl, h1, h2, h3⟩
            exact ⟨rfl, h1, h2, h3⟩
      · rw [if_pos hk]
        refine (write_short f mb N cut wr n dn A k cp w h hr.1 hr.2 hk).mono ?_
        rintro e w' ⟨rfl, rfl⟩
        exact ⟨rfl, h, hm.mono (Nat.le_succ _), Fr.refl _ _⟩
    · rw [if_pos hr]
      refine (write_no f mb N cut wr n true dn (.slice A k cp) w h 141 (by unfold clE; rw [if_neg (by simp), if_neg hr]) (by decide)).mono ?_
      rintro e w' ⟨rfl, rfl⟩
      exact ⟨rfl, h, hm.mono (Nat.le_succ _), Fr.refl _ _⟩
theorem cOf_keep (n : Int) (bs : List BlkR) (y : BlkR) (hy : y.N = n) : cOf (keepL n bs ++ [y]) = upC (cOf bs) n y.l := by
  funext x
  unfold cOf keepL upC
  rw [List.find?_append, List.find?_filter]
  by_cases e : x = n
  · subst e
    rw [if_pos rfl]
    have : bs.find? (fun a => decide ((a.N != x) = true ∧ (a.N == x) = true)) = none := List.find?_eq_none.2 (fun b _ => by
      by_cases h : b.N = x <;> simp [h])
    rw [this]
    simp [hy]
  · rw [if_neg e]
    have e2 : (fun a : BlkR => decide ((a.N != n) = true ∧ (a.N == x) = true)) = fun a => a.N == x := by
      funext a
      by_cases h : a.N = x
      · simp [h, e]
      · simp [h]
    rw [e2]
    have e3 : (y.N == x) = false := by rw [hy]; simp; exact fun h => e h.symm
    cases hq : bs.find? (fun a => a.N == x) <;> simp [e3, hq]
theorem hB_keep (n : Int) (bs : List BlkR) (y : BlkR) (hy : y.N = n) : hB (keepL n bs ++ [y]) = setB (hB bs) n y.l := by
  funext x
  unfold hB setB
  rw [cOf_keep n bs y hy]
  unfold upC
  by_cases e : x = n
  · rw [if_pos e, if_pos e]
  · rw [if_neg e, if_neg e]
def RWr (base r : Nat) (N : Int) (dn : Bool) (many n : Int) (bs : List BlkR) (l : List Nat) (o : Int × Bool × Int × Bool) (w : World) (e : Ending) (w' : World) : Prop :=
  e = .returned (.int .i64 o.1) ∧ ∃ bs', RfAt w' base r N (!o.2.1) o.2.2.1 dn (if o.2.2.2 = true then many + 1 else many) bs' ∧ cOf bs' = putIf o.2.2.2 (cOf bs) n l ∧ hB bs' = hsIf o.2.2.2 (hB bs) n l ∧ (∀ b ∈ bs', b ∈ bs ∨ ∃ g, w.heap.size ≤ g ∧ b.b = some g) ∧ w.grownBy w' (some r)
theorem rwrite_any (base r : Nat) (N left many n : Int) (on dn : Bool) (bs : List BlkR) (A : Option Addr) (k cp : Nat) (l : List Nat) (w : World) (h : RfAt w base r N (!on) left dn many bs) (hb : BIn w A k cp l) (hne : ∀ q, A = some q → 0 < k → q.block ≠ r) (hN : N ≤ 1048576) (hc : 0 ≤ left ∧ left ≤ 9223372036854775807) (hm : 0 ≤ many ∧ many ≤ 4611686018427387904) (hbase : base ≤ w.heap.size) :
    Calls Try.prog 31 #[.pointer (some ⟨r, 0, none⟩), .int .i64 n, .slice A k cp] w (RWr base r N dn many n bs l (wrOut N on left dn n k) w) := by
  unfold RWr wrOut
  have hput : ∀ {w' : World} {off' : Bool} {left' : Int}, (∃ g c, w.heap.size ≤ g ∧ RfAt w' base r N off' left' dn (many + 1) (keepL n bs ++ [⟨n, some ⟨g, 0, none⟩, 512, c, l⟩]) ∧ w.grownBy w' (some r)) → ∃ bs', RfAt w' base r N off' left' dn (many + 1) bs' ∧ cOf bs' = upC (cOf bs) n l ∧ hB bs' = setB (hB bs) n l ∧ (∀ b ∈ bs', b ∈ bs ∨ ∃ g, w.heap.size ≤ g ∧ b.b = some g) ∧ w.grownBy w' (some r) := by
    rintro w' off' left' ⟨g, c, hg, hr, hgr⟩
    refine ⟨_, hr, cOf_keep n bs _ rfl, hB_keep n bs _ rfl, fun b hb => ?_, hgr⟩
    rcases List.mem_append.1 hb with hb | hb
    · exact .inl (List.mem_filter.1 hb).1
    · obtain rfl := List.mem_singleton.1 hb
      exact .inr ⟨g, hg, rfl⟩
  cases on with
  | false =>
    rw [if_pos rfl]
    refine (rwrite_off base r N left many n dn bs (.slice A k cp) w h).mono ?_
    rintro e w' ⟨rfl, rfl⟩
    exact ⟨rfl, bs, h, rfl, rfl, fun b hb => .inl hb, grown_refl _ _⟩
  | true =>
    rw [if_neg (by simp)]
    by_cases hr : 0 ≤ n ∧ n < N
    · rw [if_neg (fun h => h hr)]
      by_cases hk : k = 512
      · subst hk
        rw [if_neg (by simp)]
        have hne' : ∀ q, A = some q → q.block ≠ r := fun q hq => hne q hq (by omega)
        by_cases h1 : left = 1
        · subst h1
          rw [if_pos rfl]
          cases dn with
          | true =>
            refine (rwrite_end base r N many n bs A cp l w h hb hN hr.1 hr.2 hm.1 hm.2 hbase).mono ?_
            rintro e w' ⟨rfl, hp⟩
            exact ⟨rfl, hput hp⟩
          | false =>
            refine (rwrite_lost base r N many n bs A cp w h hr.1 hr.2).mono ?_
            rintro e w' ⟨rfl, h1, h2⟩
            exact ⟨rfl, bs, h1, rfl, rfl, fun b hb => .inl hb, h2⟩
        · rw [if_neg h1]
          refine (rwrite_go base r N left many n dn bs A cp l w h hb hne' hN hr.1 hr.2 hm.1 hm.2 hbase (if left = 0 then 0 else left - 1) ?_).mono ?_
          · by_cases h0 : left = 0
            · exact .inl ⟨h0, by rw [if_pos h0]⟩
            · exact .inr ⟨by omega, hc.2, by rw [if_neg h0]⟩
          · rintro e w' ⟨rfl, hp⟩
            exact ⟨rfl, hput hp⟩
      · rw [if_pos hk]
        refine (rwrite_short base r N left many n dn bs A k cp w h hr.1 hr.2 hk).mono ?_
        rintro e w' ⟨rfl, rfl⟩
        exact ⟨rfl, bs, h, rfl, rfl, fun b hb => .inl hb, grown_refl _ _⟩
    · rw [if_pos hr]
      refine (rwrite_out base r N left many n dn bs (.slice A k cp) w h (by omega)).mono ?_
      rintro e w' ⟨rfl, rfl⟩
      exact ⟨rfl, bs, h, rfl, rfl, fun b hb => .inl hb, grown_refl _ _⟩
theorem wrOut_cut {N : Int} {on dn : Bool} {cut n : Int} {k : Nat} (h : 0 ≤ cut ∧ cut ≤ 9223372036854775807) : 0 ≤ (wrOut N on cut dn n k).2.2.1 ∧ (wrOut N on cut dn n k).2.2.1 ≤ 9223372036854775807 := by
  unfold wrOut
  split
  · exact h
  · split
    · exact h
    · split
      · exact h
      · split
        · exact ⟨Int.le_refl 0, by show (0 : Int) ≤ _; omega⟩
        · dsimp only
          split <;> omega
/-- both have been written to -/
theorem good_write {w1 w2 w3 : World} {base i : Nat} {s : SR} {n : Int} {k : Nat} {l : List Nat} {e1 e2 : Ending} (h : Good w1 base i s)
    (h1 : FWr s.f s.mb s.K s.N s.dn s.wr n (hB s.bs) (cOf s.bs) l (wrOut s.N s.on s.cut s.dn n k) w1 e1 w2) (h2 : RWr base s.r s.N s.dn s.wr n s.bs l (wrOut s.N s.on s.cut s.dn n k) w2 e2 w3) :
    ∃ s', Good w3 base (i + 1) s' ∧ s'.f = s.f ∧ s'.r = s.r ∧ s'.p = s.p ∧ s'.ans = s.ans ∧ s'.mb = s.mb ∧ (∀ b ∈ s'.bs, b ∈ s.bs ∨ ∃ g, w2.heap.size ≤ g ∧ b.b = some g) ∧ Below base w1 w3 := by
  obtain ⟨rfl, hf, hm, f12⟩ := h1
  obtain ⟨rfl, bs', hr, hc, hhs, hfresh, g23⟩ := h2
  generalize ho : wrOut s.N s.on s.cut s.dn n k = o at *
  have hcut := wrOut_cut (N := s.N) (on := s.on) (dn := s.dn) (n := n) (k := k) ⟨h.nb.2.2.1, h.nb.2.2.2.1⟩
  rw [ho] at hcut
  have f23 : Fr w2 w3 (fun j => j = s.r) := Fr.grown g23 (fun j e _ => by injection e with e; exact e.symm)
  obtain ⟨csr, hrb⟩ := h.rf.rblk
  have hrb2 : Blk w2 s.r 46 csr := blk_fr hrb f12 (fun e => by
    rcases e with e | e
    · exact blk_ne hrb h.fl (by decide) e
    · exact blk_map hrb h.mp e)
  have f13 : Fr w1 w3 (fun j => j = s.f ∨ j = s.mb ∨ j = s.r) := (f12.mono (fun j _ e => by rcases e with e | e; exact .inl e; exact .inr (.inl e))).trans f23 (fun j _ e => .inr (.inr e))
  have no : ∀ j t cs, Blk w1 j t cs → t ≠ 68 → t ≠ 46 → ¬ (j = s.f ∨ j = s.mb ∨ j = s.r) := fun j t cs hb ht1 ht2 e => by
    rcases e with e | e | e
    · exact blk_ne hb h.fl ht1 e
    · exact blk_map hb h.mp e
    · exact blk_ne hb hrb ht2 e
  have hlt : ∀ x ∈ s.ans, ∀ j, x.b = some j → j < w1.heap.size := fun x hx j hj => by
    obtain ⟨t, cs, hb, _⟩ := (h.an.1 x hx).blk hj
    exact hb.lt
  refine ⟨⟨s.f, s.mb, s.r, s.p, s.N, o.2.1, o.2.2.1, s.dn, if o.2.2.2 = true then s.wr + 1 else s.wr, bs', s.ans, s.K + 1⟩, ⟨?_, ?_, hr, ?_, ?_, ?_, ?_, ?_⟩, rfl, rfl, rfl, rfl, rfl, hfresh, ?_⟩
  · exact blk_fr hf f23 (fun e => blk_ne hf hrb2 (by decide) e)
  · show MAt w3 s.mb (s.K + 1) (hB bs') (cOf bs')
    rw [hc, hhs]
    exact map_fr hm f23 (fun e => blk_map hrb2 hm e.symm)
  · exact h.pr.fr f13 (fun j ⟨t, cs, hb, ht⟩ => no j t cs hb (by rcases ht with rfl | rfl | rfl <;> decide) (by rcases ht with rfl | rfl | rfl <;> decide))
  · exact h.an.fr f13 (fun x hx j hj => by
      obtain ⟨t, cs, hb, ht⟩ := (h.an.1 x hx).blk hj
      exact no j t cs hb (by rcases ht with rfl | rfl <;> decide) (by rcases ht with rfl | rfl <;> decide))
  · intro x hx b hb j hj e
    rcases hfresh b hb with hb | ⟨g, hg, hbg⟩
    · exact h.dj x hx b hb j hj e
    · have := hlt x hx j hj
      have := f12.size
      rw [e] at hbg
      injection hbg with hbg
      omega
  · exact ⟨h.lo.1, h.lo.2.1, h.lo.2.2.1, h.lo.2.2.2.1, Nat.le_trans h.lo.2.2.2.2.1 f13.size, h.lo.2.2.2.2.2⟩
  · obtain ⟨n1, n2, n3, n4, n5, n6, n7, n8⟩ := h.nb
    refine ⟨n1, n2, hcut.1, hcut.2, ?_, ?_, ?_, ?_⟩
    · show 0 ≤ (if o.2.2.2 = true then s.wr + 1 else s.wr); split <;> omega
    · show (if o.2.2.2 = true then s.wr + 1 else s.wr) ≤ ((i + 1 : Nat) : Int); split <;> omega
    · show s.K + 1 ≤ _; omega
    · show s.ans.length ≤ _; omega
  · refine ⟨f13.1, f13.2.1, f13.2.2.1, f13.size, fun j hj => f13.2.2.2.2 j (Nat.lt_of_lt_of_le hj h.lo.2.2.2.2.1) (fun e => ?_)⟩
    have := h.lo
    rcases e with e | e | e <;> omega
end Go.Proofs.Ytlgpaglkhgomiaa
