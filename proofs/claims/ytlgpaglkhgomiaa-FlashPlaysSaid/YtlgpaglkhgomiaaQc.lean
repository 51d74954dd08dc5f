/- Reads and spans of both flashes; an answer is fresh. Condition: sizes. -/
import Derived.Test.YtlgpaglkhgomiaaQ3
namespace Go.Proofs.Ytlgpaglkhgomiaa
open Go.RowKit
set_option linter.unusedVariables false
set_option maxRecDepth 100000
set_option linter.unusedSimpArgs false
/-- an answer in new memory -/
def AnsIs (E : Int) (l : List Nat) (w : World) (e : Ending) (w' : World) : Prop := ∃ x : AnsR, e = .returned (.tuple #[.slice x.a x.n x.c, .int .i64 E]) ∧ x.l = l ∧ AOk w' x ∧ (∀ j, x.b = some j → w.heap.size ≤ j) ∧ Below w.heap.size w w'
theorem aok_nil (w : World) : AOk w ⟨none, 0, 0, []⟩ := ⟨bin_nil w, by show 0 ≤ _; omega, .inl rfl⟩
theorem ans_nil (E : Int) (w : World) : AnsIs E [] w (.returned (.tuple #[.slice none 0 0, .int .i64 E])) w := ⟨⟨none, 0, 0, []⟩, rfl, rfl, aok_nil w, fun j hj => (by cases hj), Below.refl _ _⟩
theorem aok_blk {w : World} {g : Nat} {l : List Nat} (h : Blk w g 70 (natsV .u8 l)) (hl : IsB l) : AOk w ⟨some ⟨g, 0, none⟩, 512, 512, l⟩ := ⟨bin_blk h hl, by show 512 ≤ _; omega, .inr ⟨g, _, _, rfl, h, .inl rfl⟩⟩
theorem aok_own {w : World} {B n c : Nat} {a : Option Addr} {l : List Nat} (h : w.ownsRow B 5 1 (.slice a n c) n (bytesV l)) (hl : ∀ x ∈ l, x < 256) (hn : n ≤ 131072) : AOk w ⟨a, n, c, l⟩ ∧ ∀ j, (⟨a, n, c, l⟩ : AnsR).b = some j → B ≤ j := by
  obtain ⟨a', c', e, hb, _⟩ := own_in h hl (by omega)
  injection e with e1 e2 e3
  subst e1 e3
  refine ⟨⟨hb, hn, ?_⟩, fun j hj => ?_⟩
  · rcases h.2 with ⟨_, h0⟩ | ⟨g, cap, cur, e, hbg, hg, _⟩
    · exact .inl h0
    · injection e with e1 _ _
      exact .inr ⟨g, 5, cur.toList, e1, by unfold Blk; simpa using hg, .inr rfl⟩
  · rcases h.2 with ⟨e, h0⟩ | ⟨g, cap, cur, e, hbg, hg, _⟩
    · unfold AnsR.b at hj; rw [if_pos h0] at hj; cases hj
    · injection e with e1 _ _
      subst e1
      unfold AnsR.b at hj
      split at hj
      · cases hj
      · injection hj with hj; exact hj ▸ hbg
def rdL (on : Bool) (N n : Int) (c : Int → List Nat) : List Nat := if clE on N n = 0 then c n else []
theorem fread_any (f mb m : Nat) (N cut wr n : Int) (on dn : Bool) (hs : Int → Bool) (c : Int → List Nat) (w : World) (h : FlB w f mb N on cut dn wr) (hm : MAt w mb m hs c) (hN : N ≤ 1048576) (hc : ∀ x, IsB (c x)) :
    Calls Try.prog 23 #[.pointer (some ⟨f, 0, none⟩), .int .i64 n] w (AnsIs (clE on N n) (rdL on N n c) w) := by
  unfold rdL
  by_cases hE : clE on N n = 0
  · rw [hE, if_pos rfl]
    unfold clE at hE
    split at hE
    · cases hE
    · split at hE
      · rename_i h1 h2
        have hon : on = true := by simpa using h1
        subst hon
        refine (read_ok f mb m N cut wr n dn hs c w h hm h2.1 h2.2 hN).mono ?_
        rintro e w' ⟨g, rfl, hg, hb, hbl⟩
        exact ⟨⟨some ⟨g, 0, none⟩, 512, 512, c n⟩, rfl, rfl, aok_blk hb (hc n), fun j hj => by
          unfold AnsR.b at hj
          rw [if_neg (by show ¬ 512 = 0; omega)] at hj
          injection hj with hj
          exact hj ▸ hg, hbl⟩
      · cases hE
  · rw [if_neg hE]
    refine (read_no f mb N cut wr n on dn w h _ rfl (by simpa using hE)).mono ?_
    rintro e w' ⟨rfl, rfl⟩
    exact ans_nil _ _
theorem rread_any (base r : Nat) (N left many n : Int) (on dn : Bool) (bs : List BlkR) (w : World) (h : RfAt w base r N (!on) left dn many bs) :
    Calls Try.prog 32 #[.pointer (some ⟨r, 0, none⟩), .int .i64 n] w (AnsIs (clE on N n) (rdL on N n (cOf bs)) w) := by
  unfold rdL clE
  cases on with
  | false =>
    rw [if_pos rfl, if_neg (by decide)]
    refine (rread_off base r N left many n dn bs w h).mono ?_
    rintro e w' ⟨rfl, rfl⟩
    exact ans_nil _ _
  | true =>
    rw [if_neg (by simp)]
    by_cases hr : 0 ≤ n ∧ n < N
    · rw [if_pos hr, if_pos rfl]
      refine (rread_ok base r N left many n dn bs w h hr.1 hr.2).mono ?_
      rintro e w' ⟨a, c, rfl, ho, hb⟩
      obtain ⟨h1, h2⟩ := aok_own ho (cOf_is h.isB n).2 (by omega)
      exact ⟨_, rfl, rfl, h1, h2, hb⟩
    · rw [if_neg hr, if_neg (by decide)]
      refine (rread_out base r N left many n dn bs w h (by omega)).mono ?_
      rintro e w' ⟨rfl, rfl⟩
      exact ans_nil _ _
def spE (on : Bool) (N a b : Int) (x y : Nat) : Int := if on = false then 143 else if a < 0 ∨ b < 0 ∨ N - a < b then 141 else if 512 * b.toNat < x ∨ 512 * b.toNat - x < y ∨ 131072 < y then 142 else 0
def spL (on : Bool) (N a b : Int) (x y : Nat) (c : Int → List Nat) : List Nat := if spE on N a b x y = 0 then spanL c a x y else []
theorem fspan_any (f mb m : Nat) (N cut wr a b : Int) (x y : Nat) (on dn : Bool) (hs : Int → Bool) (c : Int → List Nat) (w : World) (h : FlB w f mb N on cut dn wr) (hm : MAt w mb m hs c) (hN0 : 0 ≤ N) (hN : N ≤ 1048576) (hc : ∀ x, IsB (c x)) (ha : I64 a) (hb : I64 b) (hx : x < 18446744073709551616) (hy : y < 18446744073709551616) :
    Calls Try.prog 26 #[.pointer (some ⟨f, 0, none⟩), .int .i64 a, .int .i64 b, .int .u64 (x : Nat), .int .u64 (y : Nat)] w (AnsIs (spE on N a b x y) (spL on N a b x y c) w) := by
  unfold spL spE
  cases on with
  | false =>
    rw [if_pos rfl, if_neg (by decide)]
    refine (span_off f mb N cut wr dn _ _ _ _ w h).mono ?_
    rintro e w' ⟨rfl, rfl⟩
    exact ans_nil _ _
  | true =>
    rw [if_neg (by simp)]
    by_cases hbad : a < 0 ∨ b < 0 ∨ N - a < b
    · rw [if_pos hbad, if_neg (by decide)]
      refine (Go.Proofs.Ytlgpaglkhgomiaa.span_block f mb N cut wr a b dn _ _ w h hN0 hN ha hb hbad).mono ?_
      rintro e w' ⟨rfl, rfl⟩
      exact ans_nil _ _
    · rw [if_neg hbad]
      obtain ⟨b', rfl⟩ : ∃ b' : Nat, b = (b' : Int) := ⟨b.toNat, by omega⟩
      rw [Int.toNat_natCast]
      by_cases hbad2 : 512 * b' < x ∨ 512 * b' - x < y ∨ 131072 < y
      · rw [if_pos hbad2, if_neg (by decide)]
        refine (span_size f mb N cut wr a b' x y dn w h hN (by omega) (by omega) hx hy hbad2).mono ?_
        rintro e w' ⟨rfl, rfl⟩
        exact ans_nil _ _
      · rw [if_neg hbad2, if_pos rfl]
        refine (span_ok f mb m N cut wr a b' x y dn hs c w h hm hN (by omega) (by omega) (by omega) (by omega) (by omega)).mono ?_
        rintro e w' ⟨aa, cp, rfl, ho, hbl⟩
        have hl := spanL_length c a x y
        obtain ⟨h1, h2⟩ := aok_own ho (spanL_lt hc a x y) (by omega)
        exact ⟨_, rfl, rfl, h1, h2, hbl⟩
theorem rspan_any (base r : Nat) (N left many a b : Int) (x y : Nat) (on dn : Bool) (bs : List BlkR) (w : World) (h : RfAt w base r N (!on) left dn many bs) (hN0 : 0 ≤ N) (hN : N ≤ 1048576) (ha : I64 a) (hb : I64 b) (hx : x < 18446744073709551616) (hy : y < 18446744073709551616) :
    Calls Try.prog 36 #[.pointer (some ⟨r, 0, none⟩), .int .i64 a, .int .i64 b, .int .u64 (x : Nat), .int .u64 (y : Nat)] w (AnsIs (spE on N a b x y) (spL on N a b x y (cOf bs)) w) := by
  unfold spL spE
  cases on with
  | false =>
    rw [if_pos rfl, if_neg (by decide)]
    refine (rspan_off base r N left many dn bs _ _ _ _ w h).mono ?_
    rintro e w' ⟨rfl, rfl⟩
    exact ans_nil _ _
  | true =>
    rw [if_neg (by simp)]
    by_cases hbad : a < 0 ∨ b < 0 ∨ N - a < b
    · rw [if_pos hbad, if_neg (by decide)]
      refine (rspan_block base r N left many a b dn bs _ _ w h hN0 hN ha hb hbad).mono ?_
      rintro e w' ⟨rfl, rfl⟩
      exact ans_nil _ _
    · rw [if_neg hbad]
      obtain ⟨b', rfl⟩ : ∃ b' : Nat, b = (b' : Int) := ⟨b.toNat, by omega⟩
      rw [Int.toNat_natCast]
      by_cases hbad2 : 512 * b' < x ∨ 512 * b' - x < y ∨ 131072 < y
      · rw [if_pos hbad2, if_neg (by decide)]
        refine (rspan_size base r N left many a b' x y dn bs w h hN (by omega) (by omega) hx hy hbad2).mono ?_
        rintro e w' ⟨rfl, rfl⟩
        exact ans_nil _ _
      · rw [if_neg hbad2, if_pos rfl]
        refine (rspan_ok base r N left many a b' x y dn bs w h hN (by omega) (by omega) (by omega) (by omega) (by omega)).mono ?_
        rintro e w' ⟨aa, cp, rfl, ho, hbl⟩
        have hl := spanL_length (cOf bs) a x y
        obtain ⟨h1, h2⟩ := aok_own ho (spanL_lt (cOf_is h.isB) a x y) (by omega)
        exact ⟨_, rfl, rfl, h1, h2, hbl⟩
theorem Good.fresh {w : World} {base i : Nat} {s : SR} (h : Good w base i s) {j : Nat} (hj : w.heap.size ≤ j) : (∀ y ∈ s.ans, y.b ≠ some j) ∧ (∀ b ∈ s.bs, b.b ≠ some j) ∧ base ≤ j := by
  refine ⟨fun y hy e => ?_, fun b hb e => ?_, Nat.le_trans h.lo.2.2.2.2.1 hj⟩
  · obtain ⟨t, cs, hk, _⟩ := (h.an.1 y hy).blk e
    have := hk.lt; omega
  · obtain ⟨cs, hk⟩ := h.rf.dblk hb e
    have := hk.lt; omega
theorem AOk.below {w w' : World} {x : AnsR} (h : AOk w x) (hb : Below w.heap.size w w') : AOk w' x := h.fr (Fr.below hb : Fr w w' (fun _ => False)) (fun _ _ x => x)
theorem AOk.noP {w : World} {x : AnsR} (h : AOk w x) : ∀ q, x.a = some q → 0 < x.n → ¬ PF w q.block := fun q hq hn => h.noPF _ (by unfold AnsR.b; rw [if_neg (by omega), hq]; rfl)
/-- two like answers are put -/
theorem put_like {W w0 : World} {base i : Nat} {s : SR} {x y : AnsR} (h : Good w0 base i s) (h0 : Gr w0 W) (hx : AOk W x) (hy : AOk W y) (hl : x.l = y.l) (hfx : ∀ j, x.b = some j → w0.heap.size ≤ j) (hi : i ≤ 1000) :
    Calls Try.prog 33 #[.pointer (some ⟨s.p, 0, none⟩), .slice x.a x.n x.c, .slice y.a y.n y.c] W fun e w' => e = .returned (.bool true) ∧ ∃ s', Good w' base (i + 1) s' ∧ s'.f = s.f ∧ s'.r = s.r ∧ s'.p = s.p ∧ Below base W w' := by
  have hg := h.below h0
  have hn := h.nb
  have hyb : BIn W y.a y.n y.c x.l := hl ▸ hy.1
  refine (pput_any base s.p _ _ s.ans x.a y.a x.n x.c y.n y.c x.l W hg.pr hx.1 hyb (by omega) hx.noP hy.noP hg.lo.2.2.2.2.1 hg.lo.2.2.2.1 rfl rfl).mono ?_
  intro e w' hp
  exact ⟨hp.1, good_put hg hx (fun z hz j hj e => (h.fresh (hfx j e)).1 z hz hj) (fun b hb j hj e => (h.fresh (hfx j hj)).2.1 b hb e) (fun j hj => (h.fresh (hfx j hj)).2.2) hp⟩
end Go.Proofs.Ytlgpaglkhgomiaa
