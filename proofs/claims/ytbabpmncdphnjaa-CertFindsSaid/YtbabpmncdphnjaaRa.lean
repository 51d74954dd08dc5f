/- The project's readAll and read. No condition. -/
import Derived.Test.YtbabpmncdphnjaaRd
import Derived.Deep.AppendLies
namespace Go.Proofs.Ytbabpmncdphnjaa
open Go.RowKit
set_option linter.unusedVariables false
set_option maxRecDepth 100000

theorem nodup_join {A B : List Nat} (m : Nat) (hA : ∀ x ∈ A, x < m) (hB : ∀ x ∈ B, m ≤ x) (h1 : A.Nodup) (h2 : B.Nodup) : (A ++ B).Nodup := by
  refine List.nodup_append.2 ⟨h1, h2, fun x hx y hy e => ?_⟩
  have := hA x hx
  have := hB y hy
  omega
theorem ob_some {v : Value} {g : Nat} (h : v.ownBlock = some g) : ob v = [g] := by simp [ob, h]
/-- one item more on a list of the call's own -/
theorem own_push {wr w2 w4 w5 : World} {base m H g n cap : Nat} {A : Tr} {v : Value} {xs : List Value} {L Lk : List Nat} {t : Nat} {b : List Nat} {k : Tr} {i0 v1 v2 : Value}
    (hv : wr.ownsRow base 25 3 v A.len xs) (hA : OwnV wr base A xs L) (hN : (ob v ++ L).Nodup) (hb2 : ∀ g, g < wr.heap.size → w2.heap[g]? = wr.heap[g]?) (hm : wr.heap.size < m) (hbm : base ≤ m)
    (hk : OwnV w2 m (.node t b k .nil) [i0, v1, v2] Lk) (hkN : Lk.Nodup) (h4 : ∀ g, g < wr.heap.size ∨ (m ≤ g ∧ g < w2.heap.size) → w4.heap[g]? = w2.heap[g]?) (hs2 : wr.heap.size ≤ w2.heap.size) (hs4 : w2.heap.size ≤ w4.heap.size) (hH : w4.heap.size = H)
    (hg : w4.grownBy w5 v.ownBlock) (hat : v.ownBlock = some g ∨ g = H) :
    OwnV w5 base (A.app (.node t b k .nil)) (xs ++ [i0, v1, v2]) (L ++ Lk) ∧ (ob (.slice (some ⟨g, 0, none⟩) n cap) ++ (L ++ Lk)).Nodup := by
  have hL := hA.lt
  have hK := hk.lt
  have hvl := own_ob_lt hv
  have hN' := List.nodup_append.1 hN
  have k1 : ∀ x ∈ L, w5.heap[x]? = wr.heap[x]? := by
    intro x hx
    have hx1 := (hL x hx).2
    rw [hg.block x (by omega) (fun e => hN'.2.2 x (by rw [ob, ← e]; simp) x hx rfl), h4 x (.inl hx1), hb2 x hx1]
  have k2 : ∀ x ∈ Lk, w5.heap[x]? = w2.heap[x]? := by
    intro x hx
    have hx1 := hK x hx
    rw [hg.block x (by omega) (fun e => by have := (hvl x (by rw [ob, ← e]; simp)).2; omega), h4 x (.inr hx1)]
  refine ⟨(hA.keep k1).app ((hk.keep k2).mono hbm), ?_⟩
  have e : ob (.slice (some ⟨g, 0, none⟩) n cap) = [g] := rfl
  rw [e]
  have hLK : (L ++ Lk).Nodup := nodup_join m (fun x hx => by have := (hL x hx).2; omega) (fun x hx => (hK x hx).1) hN'.2.1 hkN
  show (g :: (L ++ Lk)).Nodup
  refine List.nodup_cons.2 ⟨fun hx => ?_, hLK⟩
  rcases hat with hat | rfl
  · have hgv := ob_some hat
    have hgl := (hvl g (by rw [hgv]; simp)).2
    rcases List.mem_append.1 hx with hx | hx
    · exact hN'.2.2 g (by rw [hgv]; simp) g hx rfl
    · have := (hK g hx).1; omega
  · rcases List.mem_append.1 hx with hx | hx
    · have := (hL _ hx).2; omega
    · have := (hK _ hx).2; omega
/-- what lies in a block that was there is as it was -/
theorem BIn.at {W w1 w2 : World} {B o n c : Nat} {l : List Nat} (h : BIn w1 (some ⟨B, o, none⟩) n c l) (hB : B < W.heap.size) (h1 : Below W.heap.size W w1) (h2 : Below W.heap.size W w2) : BIn w2 (some ⟨B, o, none⟩) n c l := by
  obtain ⟨⟨e1, e2, e3, e4⟩, e5⟩ := h
  refine ⟨⟨e1, e2, e3, ?_⟩, e5⟩
  rcases e4 with e4 | ⟨b, off, hE, hc⟩
  · exact .inl e4
  · injection hE with hE
    injection hE with q1 q2
    subst q1 q2
    refine .inr ⟨_, _, rfl, fun i hi => ?_⟩
    rw [← hc i hi]
    exact World.cell?_of_block ((h2.block B hB).trans (h1.block B hB).symm)
theorem info25z : (Try.prog.info? 25).map (fun i => (i.zero, i.size, i.bytes)) = some (some (.agg #[.int .u8 0, .slice none 0 0, .slice none 0 0]), 3, 56) := by kernel_rfl
theorem RaIs.err {R : Except Nat Tr} {w : World} {c : Nat} (h : R = .error c) {w' : World} (hb : Below w.heap.size w w') : RaIs R w (boom c) w' := by subst h; exact ⟨hb, rfl⟩
theorem RaIs.good {R : Except Nat Tr} {w : World} {T : Tr} (h : R = .ok T) {w' : World} (hb : Below w.heap.size w w') {v : Value} {ys : List Value} {L : List Nat} (h0 : T.len ≤ 1048576) (h1 : w'.ownsRow w.heap.size 25 3 v T.len ys) (h2 : OwnV w' w.heap.size T ys L) (h3 : (ob v ++ L).Nodup) : RaIs R w (.returned v) w' := by
  subst h; exact ⟨hb, v, ys, L, rfl, h0, h1, h2, h3⟩
theorem rd_bad {ain : Option Addr} {R : Except Nat (Nat × List Nat × Tr × List Nat)} {x : Nat} (h : R = .error x) {args : Array Value} {w : World} (hc : Calls Try.prog 50 args w (RdIs ain R w)) : Calls Try.prog 50 args w fun e w' => e = boom x ∧ Below w.heap.size w w' := by
  subst h; exact hc.mono fun e w' h => ⟨h.2, h.1⟩
theorem rd_good {ain : Option Addr} {R : Except Nat (Nat × List Nat × Tr × List Nat)} {t : Nat} {b : List Nat} {k : Tr} {r : List Nat} (h : R = .ok (t, b, k, r)) {args : Array Value} {w : World} (hc : Calls Try.prog 50 args w (RdIs ain R w)) : Calls Try.prog 50 args w fun e w' =>
    ∃ v1 v2 a c L, e = .returned (.tuple #[.agg #[.int .u8 (t : Nat), v1, v2], .slice a r.length c]) ∧ OwnV w' w.heap.size (.node t b k .nil) [.int .u8 (t : Nat), v1, v2] L ∧ L.Nodup ∧ BIn w' a r.length c r ∧ (∀ B f, ain = some ⟨B, f, none⟩ → ∃ o, a = some ⟨B, o, none⟩) ∧ Below w.heap.size w w' := by
  subst h; exact hc.mono fun e w' h => by
    obtain ⟨v1, v2, a, c, L, h1, h2, h3, h4, h5⟩ := h.2
    exact ⟨v1, v2, a, c, L, h1, h2, h3, h4, h5, h.1⟩

/-- the world behind a store into a new item's variable and one new block -/
theorem mid_keep {wr w2 : World} {cs cs2 : Array Value} {ty : TypeId} (hb2 : ∀ g, g < wr.heap.size → w2.heap[g]? = wr.heap[g]?) (hs : wr.heap.size < w2.heap.size) :
    (∀ g, g < wr.heap.size ∨ (wr.heap.size + 1 ≤ g ∧ g < w2.heap.size) → ((w2.setRow wr.heap.size cs).alloc (.cells cs2 ty)).heap[g]? = w2.heap[g]?) := by
  intro g hg
  have h1 : (w2.setRow wr.heap.size cs).heap.size = w2.heap.size := by simp
  rw [Below.heap_alloc _ _ g (by rw [h1]; omega), setRow_other w2 wr.heap.size g cs (by omega)]
theorem one_three (w : World) (a b c : Value) (t : TypeId) : ∀ j u, [a, b, c][j]? = some u → (w.alloc (.cells #[a, b, c] t)).cell? ((⟨w.heap.size, 0, none⟩ : Addr).add j) = some u := by
  intro j u hj
  rw [Addr.add_mid]
  exact rangeAt_new w a b c t j u hj
theorem news_three {w2 : World} {g : Nat} (cs : Array Value) (a b c : Value) (t : TypeId) : ∀ j u, [a, b, c][j]? = some u → ((w2.setRow g cs).alloc (.cells #[a, b, c] t)).cell? ((⟨w2.heap.size, 0, none⟩ : Addr).add j) = some u := by
  have h1 : (w2.setRow g cs).heap.size = w2.heap.size := by simp
  rw [← h1]; exact one_three _ a b c t

set_option maxRecDepth 100000 in
set_option maxHeartbeats 4000000 in
theorem readAll_step (F : Nat) (IH : ∀ g, g < F → ∀ (d : Nat) (l : List Nat) (w : World) (a : Option Addr) (n c : Nat), l.length + 1 ≤ g → l.length ≤ 65536 → d ≤ 65536 → BIn w a n c l → Calls Try.prog 50 #[.slice a n c, .int .i64 (d : Nat)] w (RdIs a (rd g d l) w))
    (d : Nat) (l : List Nat) (w : World) (a : Option Addr) (n c : Nat) (hf : l.length + 2 ≤ F) (hl : l.length ≤ 65536) (hd : d ≤ 65536) (hin : BIn w a n c l) :
    Calls Try.prog 86 #[.slice a n c, .int .i64 (d : Nat)] w (RaIs (rdA F d l) w) := by
  have hn : l.length = n := hin.1.1
  rcases Nat.eq_zero_or_pos n with h0 | h0
  · subst h0
    obtain rfl : l = [] := List.eq_nil_of_length_eq_zero hn
    clear hin IH
    go_enter Try.func86, Try.ntmps86
    go_wp2
    go_loopw [0, 5] (fun b i wr => b = .slice a 0 c ∧ i = .slice none 0 0 ∧ wr = w) (fun _ _ _ => 0)
    case atStart => exact ⟨rfl, rfl, rfl⟩
    case round =>
      obtain ⟨rfl, rfl, rfl⟩ := hrel
      go_wp2
      go_ret
      exact RaIs.good (rdA_nil _ _) (Below.refl _ _) (Nat.zero_le _) (World.ownsRow_nil _ _ _ _) ⟨rfl, rfl⟩ List.nodup_nil
  · obtain ⟨B, off, rfl, hc⟩ := hin.1.2.2.2.resolve_left (by omega)
    have hBw : B < w.heap.size := World.block_lt_of_cell? w _ (hc 0 h0)
    have HI := Lib.hid hin
    have IH' := Lib.hid IH
    have HL := Lib.hid hl
    clear hin hc IH
    obtain ⟨i25, hi25, hz25, hs25, hy25⟩ := info_parts info25z
    go_enter Try.func86, Try.ntmps86
    go_wp2
    go_loopw [0, 5] (fun b i wr => ∃ (g : Nat) (l' : List Nat) (o n' c' : Nat) (A : Tr) (xs : List Value) (L : List Nat), b = .slice (some ⟨B, o, none⟩) n' c' ∧ rdA F d l = comb A (rdA g d l') ∧ l'.length + 2 ≤ g ∧ g ≤ F ∧ A.len + l'.length ≤ l.length ∧
      BIn wr (some ⟨B, o, none⟩) n' c' l' ∧ wr.ownsRow w.heap.size 25 3 i A.len xs ∧ OwnV wr w.heap.size A xs L ∧ (ob i ++ L).Nodup ∧ Below w.heap.size w wr) (fun b _ _ => match b with | .slice _ n _ => n | _ => 0)
    case atStart => exact ⟨F, l, off, n, c, .nil, [], [], rfl, (comb_nil _).symm, hf, Nat.le_refl _, by simp [Tr.len], HI.out, World.ownsRow_nil _ _ _ _, ⟨rfl, rfl⟩, List.nodup_nil, Below.refl _ _⟩
    case round =>
      obtain ⟨g, l', o, n', c', A, xs, L, rfl, hR, hg, hgF, hAl, hb, hown, hV, hN, hbel⟩ := hrel
      have hn' : l'.length = n' := hb.1.1
      by_cases hp : 0 < n'
      · have hpi : (0 : Int) < (n' : Int) := by omega
        obtain ⟨g, rfl⟩ : ∃ g', g = g' + 1 := ⟨g - 1, by omega⟩
        obtain ⟨x, y, rfl⟩ : ∃ x y, l' = x :: y := by cases l' with
          | nil => simp at hn'; omega
          | cons x y => exact ⟨x, y, rfl⟩
        have HO := Lib.hid hown
        have HV := Lib.hid hV
        have HN := Lib.hid hN
        have HB := Lib.hid hb
        have HR := Lib.hid hR
        have hAl2 := Lib.hid hAl
        clear hown hV hN hb hR hAl
        have hC := IH'.out g (by omega) d (x :: y) (wr.alloc (.cells #[.int .u8 0, .slice none 0 0, .slice none 0 0] 25)) (some ⟨B, o, none⟩) n' c' (by omega) (by have := HL.out; have := hAl2.out; omega) hd (HB.out.below ((Below.refl _ _).alloc (Nat.le_refl _) _))
        cases hE : rd g d (x :: y) with
        | error z =>
          rw [hE] at hC
          have HC := Lib.hid (rd_bad rfl hC)
          have HE := Lib.hid hE
          clear hC hE
          go_wp2_with (first | (go_at_call 50; refine HC.out.mono ?_; rintro e w2 ⟨rfl, hb2⟩))
          all_goals exact ⟨rfl, RaIs.err (by rw [HR.out]; exact rdA_err A HE.out) (hbel.trans (((Below.refl _ wr).alloc (Nat.le_refl _) _).trans (hb2.mono (by simp)) |>.mono hbel.size))⟩
        | ok p =>
          obtain ⟨t, b, k, r⟩ := p
          rw [hE] at hC
          have HC := Lib.hid (rd_good rfl hC)
          have HE := Lib.hid hE
          have hrl := rd_len _ _ _ hE
          have D1 := Lib.hid (Blk.new wr 25 [.int .u8 0, .slice none 0 0, .slice none 0 0])
          clear hC hE
          go_wp2_with (first | (go_at_call 50; refine HC.out.mono ?_; rintro e w2 ⟨v1, v2, ar, cr, Lk, rfl, hV2, hN2, hbr, hB1, hb2⟩; obtain ⟨o', rfl⟩ := hB1 _ _ rfl; obtain ⟨a1, c1, a2, c2, _, rfl, rfl, hit⟩ := hV2.item; have HV2 := Lib.hid hV2; have HN2 := Lib.hid hN2; have HBR := Lib.hid hbr; have D2 := Lib.hid (D1.out.below' hb2); have hb3 : ∀ g, g < wr.heap.size → w2.heap[g]? = wr.heap[g]? := fun g hg => (hb2.block g (by simp only [World.size_alloc]; omega)).trans (Below.heap_alloc _ _ g hg); have hs3 : wr.heap.size < w2.heap.size := (by have := hb2.size; simp only [World.size_alloc] at this; omega); have HK := Lib.hid (fun cs cs2 => mid_keep (cs := cs) (cs2 := cs2) (ty := 25) hb3 hs3); have HO4 := Lib.hid (fun cs cs2 => own_keep HO.out (fun g hg => by have h1 := (own_ob_lt HO.out g hg).2; exact (HK.out cs cs2 g (.inl h1)).trans (hb3 g h1))); have HB3 := Lib.hid hb3; clear hV2 hN2 hbr hit hb3) | (refine wpList_store_row (P := Try.prog) rfl 25 (.tmp 6) (.tmp 14) rfl wr.heap.size #[.int .u8 (t : Nat), .slice a1 b.length c1, .slice a2 k.len c2] rfl rfl 25 _ D2.out info25 rfl (all_item _ _ _ _ _ _ _) ?_; have D3 := Lib.hid (D2.out.setRow [.int .u8 (t : Nat), .slice a1 b.length c1, .slice a2 k.len c2])) | (refine wpList_load_row (P := Try.prog) rfl 25 (.tmp 6) rfl wr.heap.size rfl 25 _ _ _ D3.out Try.underlying25 rfl info25 ?_) | (at_builtin; refine wpList_append_lies _ rfl (.tmp 16) (.tmp 18) 23 rfl w.heap.size 25 i25 _ 3 56 Try.underlying23 hi25 hz25 hs25 hy25 rfl (by decide) u5 A.len xs rfl (HO4.out _ _) ⟨w2.heap.size, 0, none⟩ 1 1 [.int .u8 (t : Nat), .slice a1 b.length c1, .slice a2 k.len c2] rfl rfl (news_three _ _ _ _ _) (HV2.out.cell1) (by decide) (by have := hAl2.out; have := HL.out; simp only [maxLen]; omega) (by have := hAl2.out; have := HL.out; omega) (by have := hbel.size; simp; omega) _ rfl ?_; intro g5 cap5 w5 hown5 hg5 hat5 hlt5))
          have hb22 : Below w.heap.size w w2 := hbel.trans ((((Below.refl _ wr).alloc (Nat.le_refl _) _).trans (hb2.mono (by simp))).mono hbel.size)
          have hb4 := (below_setRow' hb22 hbel.size #[.int .u8 (t : Nat), .slice a1 b.length c1, .slice a2 k.len c2]).alloc (by have := hb22.size; simpa using this) (.cells #[.int .u8 (t : Nat), .slice a1 b.length c1, .slice a2 k.len c2] 25)
          have hb5 := hb4.grown hg5 hb4.size (fun x hx => (own_ob_lt HO.out x (by rw [ob, hx]; simp)).1)
          have hV2 : OwnV w2 (wr.heap.size + 1) (.node t b k .nil) [.int .u8 (t : Nat), .slice a1 b.length c1, .slice a2 k.len c2] Lk := by have := HV2.out; simpa only [World.size_alloc] using this
          have hP := own_push (n := A.len + 1) (cap := cap5) HO.out HV.out HN.out HB3.out (Nat.lt_succ_self _) (by have := hbel.size; omega) hV2 HN2.out (HK.out _ _) (by omega) (by simp) rfl hg5 hat5
          have hBR := HBR.out.at hBw hb22 hb5
          have hAL := hAl2.out
          go_roundw
          case rel =>
            refine ⟨g, r, o', r.length, cr, A.app (.node t b k .nil), xs ++ [.int .u8 (t : Nat), .slice a1 b.length c1, .slice a2 k.len c2], L ++ Lk, rfl, ?_, by omega, by omega, ?_, hBR, ?_, hP.1, hP.2, hb5⟩
            · rw [HR.out]; exact rdA_ok A HE.out
            · rw [Tr.len_app]; simp only [Tr.len]; omega
            · rw [Tr.len_app]; exact hown5
          case measure => simp only; omega
      · obtain rfl : n' = 0 := by omega
        obtain rfl : l' = [] := List.eq_nil_of_length_eq_zero hn'
        have HR := Lib.hid hR
        have HV := Lib.hid hV
        have HN := Lib.hid hN
        have HO := Lib.hid hown
        have hA2 : A.len ≤ 1048576 := by have := HL.out; omega
        clear hR hV hN hown hb
        go_wp2
        go_ret
        exact RaIs.good (by rw [HR.out, rdA_nil]; simp [comb, Tr.app_nil]) hbel hA2 HO.out HV.out HN.out
/-- read and readAll, whatever fuel is enough -/
theorem read_both : ∀ F : Nat,
    (∀ g, g ≤ F → ∀ (d : Nat) (l : List Nat) (w : World) (a : Option Addr) (n c : Nat), l.length + 1 ≤ g → l.length ≤ 65536 → d ≤ 65536 → BIn w a n c l → Calls Try.prog 50 #[.slice a n c, .int .i64 (d : Nat)] w (RdIs a (rd g d l) w)) ∧
    (∀ g, g ≤ F → ∀ (d : Nat) (l : List Nat) (w : World) (a : Option Addr) (n c : Nat), l.length + 2 ≤ g → l.length ≤ 65536 → d ≤ 65536 → BIn w a n c l → Calls Try.prog 86 #[.slice a n c, .int .i64 (d : Nat)] w (RaIs (rdA g d l) w)) := by
  intro F
  induction F with
  | zero => exact ⟨fun g hg d l w a n c h => by omega, fun g hg d l w a n c h => by omega⟩
  | succ F ih =>
    have h1 : ∀ g, g ≤ F + 1 → ∀ (d : Nat) (l : List Nat) (w : World) (a : Option Addr) (n c : Nat), l.length + 1 ≤ g → l.length ≤ 65536 → d ≤ 65536 → BIn w a n c l → Calls Try.prog 50 #[.slice a n c, .int .i64 (d : Nat)] w (RdIs a (rd g d l) w) := by
      intro g hg d l w a n c h1 h2 h3 h4
      rcases Nat.lt_or_ge g (F + 1) with h | h
      · exact ih.1 g (by omega) d l w a n c h1 h2 h3 h4
      · obtain rfl : g = F + 1 := by omega
        exact read_step F (ih.2 F (Nat.le_refl _)) d l w a n c (by omega) h2 h3 h4
    refine ⟨h1, fun g hg d l w a n c h2 h3 h4 h5 => ?_⟩
    exact readAll_step g (fun g' hg' => h1 g' (by omega)) d l w a n c h2 h3 h4 h5
theorem read_any (d : Nat) (l : List Nat) (w : World) (a : Option Addr) (n c : Nat) (hl : l.length ≤ 65536) (hd : d ≤ 65536) (hin : BIn w a n c l) :
    Calls Try.prog 50 #[.slice a n c, .int .i64 (d : Nat)] w (RdIs a (rd (l.length + 1) d l) w) := (read_both _).1 _ (Nat.le_refl _) d l w a n c (Nat.le_refl _) hl hd hin
end Go.Proofs.Ytbabpmncdphnjaa
