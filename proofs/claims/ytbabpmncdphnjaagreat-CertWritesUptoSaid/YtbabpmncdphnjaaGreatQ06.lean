/- Parts of proofs of statements, each text behind those that it stands on. No condition of its own. -/
import Derived.Recover
import Derived.Test.YtbabpmncdphnjaaGreatQ05
namespace Go.Proofs.YtbabpmncdphnjaaGreat
open Go.RowKit
set_option linter.unusedVariables false
set_option maxRecDepth 100000
theorem nodup_join {A B : List Nat} (m : Nat) (hA : ∀ x ∈ A, x < m) (hB : ∀ x ∈ B, m ≤ x) (h1 : A.Nodup) (h2 : B.Nodup) : (A ++ B).Nodup := by
  refine List.nodup_append.2 ⟨h1, h2, fun x hx y hy e => ?_⟩
  have := hA x hx
  have := hB y hy
  omega
theorem ob_some {v : Value} {g : Nat} (h : v.ownBlock = some g) : ob v = [g] := by simp [ob, h]
theorem own_push {wr w2 w4 w5 : World} {base m H g n cap : Nat} {A : Tr} {v : Value} {xs : List Value} {L Lk : List Nat} {t : Nat} {b : List Nat} {k : Tr} {i0 v1 v2 : Value}
    (hv : wr.ownsRow base 45 3 v A.len xs) (hA : OwnV wr base A xs L) (hN : (ob v ++ L).Nodup) (hb2 : ∀ g, g < wr.heap.size → w2.heap[g]? = wr.heap[g]?) (hm : wr.heap.size < m) (hbm : base ≤ m)
    (hk : OwnV w2 m (.node t b k .nil) [i0, v1, v2] Lk) (hkN : Lk.Nodup) (h4 : ∀ g, g < wr.heap.size ∨ (m ≤ g ∧ g < w2.heap.size) → w4.heap[g]? = w2.heap[g]?) (hs2 : wr.heap.size ≤ w2.heap.size) (hs4 : w2.heap.size ≤ w4.heap.size) (hH : w4.heap.size = H)
    (hg : w4.grownBy w5 v.ownBlock) (hat : v.ownBlock = some g ∨ g = H) :
    OwnV w5 base (A.app (.node t b k .nil)) (xs ++ [i0, v1, v2]) (L ++ Lk) ∧ (ob (.slice (some ⟨g, 0, none⟩) n cap) ++ (L ++ Lk)).Nodup := by
  have hL := hA.lt
  have hK := hk.lt
  have hvl := own_ob_lt hv
  have hN' := List.nodup_append.1 hN
  have k1 : ∀ x ∈ L, w5.heap[x]? = wr.heap[x]? := by
    intro x hx
    have hx1 := (hL x hx).2
    rw [hg.block x (by omega) (fun e => hN'.2.2 x (by rw [ob, ← e]; simp) x hx rfl), h4 x (.inl hx1), hb2 x hx1]
  have k2 : ∀ x ∈ Lk, w5.heap[x]? = w2.heap[x]? := by
    intro x hx
    have hx1 := hK x hx
    rw [hg.block x (by omega) (fun e => by have := (hvl x (by rw [ob, ← e]; simp)).2; omega), h4 x (.inr hx1)]
  refine ⟨(hA.keep k1).app ((hk.keep k2).mono hbm), ?_⟩
  have e : ob (.slice (some ⟨g, 0, none⟩) n cap) = [g] := rfl
  rw [e]
  have hLK : (L ++ Lk).Nodup := nodup_join m (fun x hx => by have := (hL x hx).2; omega) (fun x hx => (hK x hx).1) hN'.2.1 hkN
  show (g :: (L ++ Lk)).Nodup
  refine List.nodup_cons.2 ⟨fun hx => ?_, hLK⟩
  rcases hat with hat | rfl
  · have hgv := ob_some hat
    have hgl := (hvl g (by rw [hgv]; simp)).2
    rcases List.mem_append.1 hx with hx | hx
    · exact hN'.2.2 g (by rw [hgv]; simp) g hx rfl
    · have := (hK g hx).1; omega
  · rcases List.mem_append.1 hx with hx | hx
    · have := (hL _ hx).2; omega
    · have := (hK _ hx).2; omega
theorem BIn.at {W w1 w2 : World} {B o n c : Nat} {l : List Nat} (h : BIn w1 (some ⟨B, o, none⟩) n c l) (hB : B < W.heap.size) (h1 : Below W.heap.size W w1) (h2 : Below W.heap.size W w2) : BIn w2 (some ⟨B, o, none⟩) n c l := by
  obtain ⟨⟨e1, e2, e3, e4⟩, e5⟩ := h
  refine ⟨⟨e1, e2, e3, ?_⟩, e5⟩
  rcases e4 with e4 | ⟨b, off, hE, hc⟩
  · exact .inl e4
  · injection hE with hE
    injection hE with q1 q2
    subst q1 q2
    refine .inr ⟨_, _, rfl, fun i hi => ?_⟩
    rw [← hc i hi]
    exact World.cell?_of_block ((h2.block B hB).trans (h1.block B hB).symm)
theorem info25z : (Tryz.prog.info? 45).map (fun i => (i.zero, i.size, i.bytes)) = some (some (.agg #[.int .u8 0, .slice none 0 0, .slice none 0 0]), 3, 56) := by kernel_rfl
theorem RaIs.err {R : Except Nat Tr} {w : World} {c : Nat} (h : R = .error c) {w' : World} (hb : Below w.heap.size w w') : RaIs R w (boom c) w' := by subst h; exact ⟨hb, rfl⟩
theorem RaIs.good {R : Except Nat Tr} {w : World} {T : Tr} (h : R = .ok T) {w' : World} (hb : Below w.heap.size w w') {v : Value} {ys : List Value} {L : List Nat} (h0 : T.len ≤ 1048576) (h1 : w'.ownsRow w.heap.size 45 3 v T.len ys) (h2 : OwnV w' w.heap.size T ys L) (h3 : (ob v ++ L).Nodup) : RaIs R w (.returned v) w' := by
  subst h; exact ⟨hb, v, ys, L, rfl, h0, h1, h2, h3⟩
theorem rd_bad {ain : Option Addr} {R : Except Nat (Nat × List Nat × Tr × List Nat)} {x : Nat} (h : R = .error x) {args : Array Value} {w : World} (hc : Calls Tryz.prog 58 args w (RdIs ain R w)) : Calls Tryz.prog 58 args w fun e w' => e = boom x ∧ Below w.heap.size w w' := by
  subst h; exact hc.mono fun e w' h => ⟨h.2, h.1⟩
theorem rd_good {ain : Option Addr} {R : Except Nat (Nat × List Nat × Tr × List Nat)} {t : Nat} {b : List Nat} {k : Tr} {r : List Nat} (h : R = .ok (t, b, k, r)) {args : Array Value} {w : World} (hc : Calls Tryz.prog 58 args w (RdIs ain R w)) : Calls Tryz.prog 58 args w fun e w' =>
    ∃ v1 v2 a c L, e = .returned (.tuple #[.agg #[.int .u8 (t : Nat), v1, v2], .slice a r.length c]) ∧ OwnV w' w.heap.size (.node t b k .nil) [.int .u8 (t : Nat), v1, v2] L ∧ L.Nodup ∧ BIn w' a r.length c r ∧ (∀ B f, ain = some ⟨B, f, none⟩ → ∃ o, a = some ⟨B, o, none⟩) ∧ Below w.heap.size w w' := by
  subst h; exact hc.mono fun e w' h => by
    obtain ⟨v1, v2, a, c, L, h1, h2, h3, h4, h5⟩ := h.2
    exact ⟨v1, v2, a, c, L, h1, h2, h3, h4, h5, h.1⟩
theorem mid_keep {wr w2 : World} {cs cs2 : Array Value} {ty : TypeId} (hb2 : ∀ g, g < wr.heap.size → w2.heap[g]? = wr.heap[g]?) (hs : wr.heap.size < w2.heap.size) :
    (∀ g, g < wr.heap.size ∨ (wr.heap.size + 1 ≤ g ∧ g < w2.heap.size) → ((w2.setRow wr.heap.size cs).alloc (.cells cs2 ty)).heap[g]? = w2.heap[g]?) := by
  intro g hg
  have h1 : (w2.setRow wr.heap.size cs).heap.size = w2.heap.size := by simp
  rw [Below.heap_alloc _ _ g (by rw [h1]; omega), setRow_other w2 wr.heap.size g cs (by omega)]
theorem one_three (w : World) (a b c : Value) (t : TypeId) : ∀ j u, [a, b, c][j]? = some u → (w.alloc (.cells #[a, b, c] t)).cell? ((⟨w.heap.size, 0, none⟩ : Addr).add j) = some u := by
  intro j u hj
  rw [Addr.add_mid]
  exact rangeAt_new w a b c t j u hj
theorem news_three {w2 : World} {g : Nat} (cs : Array Value) (a b c : Value) (t : TypeId) : ∀ j u, [a, b, c][j]? = some u → ((w2.setRow g cs).alloc (.cells #[a, b, c] t)).cell? ((⟨w2.heap.size, 0, none⟩ : Addr).add j) = some u := by
  have h1 : (w2.setRow g cs).heap.size = w2.heap.size := by simp
  rw [← h1]; exact one_three _ a b c t
set_option maxRecDepth 100000 in
set_option maxHeartbeats 4000000 in
theorem readAll_step (F : Nat) (IH : ∀ g, g < F → ∀ (d : Nat) (l : List Nat) (w : World) (a : Option Addr) (n c : Nat), l.length + 1 ≤ g → l.length ≤ 65536 → d ≤ 65536 → BIn w a n c l → Calls Tryz.prog 58 #[.slice a n c, .int .i64 (d : Nat)] w (RdIs a (rd g d l) w))
    (d : Nat) (l : List Nat) (w : World) (a : Option Addr) (n c : Nat) (hf : l.length + 2 ≤ F) (hl : l.length ≤ 65536) (hd : d ≤ 65536) (hin : BIn w a n c l) :
    Calls Tryz.prog 94 #[.slice a n c, .int .i64 (d : Nat)] w (RaIs (rdA F d l) w) := by
  have hn : l.length = n := hin.1.1
  rcases Nat.eq_zero_or_pos n with h0 | h0
  · subst h0
    obtain rfl : l = [] := List.eq_nil_of_length_eq_zero hn
    clear hin IH
    go_enter Tryz.func94, Tryz.ntmps94
    go_wp2
    go_loopw [0, 5] (fun b i wr => b = .slice a 0 c ∧ i = .slice none 0 0 ∧ wr = w) (fun _ _ _ => 0)
    case atStart => exact ⟨rfl, rfl, rfl⟩
    case round =>
      obtain ⟨rfl, rfl, rfl⟩ := hrel
      go_wp2
      go_ret
      exact RaIs.good (rdA_nil _ _) (Below.refl _ _) (Nat.zero_le _) (World.ownsRow_nil _ _ _ _) ⟨rfl, rfl⟩ List.nodup_nil
  · obtain ⟨B, off, rfl, hc⟩ := hin.1.2.2.2.resolve_left (by omega)
    have hBw : B < w.heap.size := World.block_lt_of_cell? w _ (hc 0 h0)
    have HI := Lib.hid hin
    have IH' := Lib.hid IH
    have HL := Lib.hid hl
    clear hin hc IH
    obtain ⟨i25, hi25, hz25, hs25, hy25⟩ := info_parts info25z
    go_enter Tryz.func94, Tryz.ntmps94
    go_wp2
    go_loopw [0, 5] (fun b i wr => ∃ (g : Nat) (l' : List Nat) (o n' c' : Nat) (A : Tr) (xs : List Value) (L : List Nat), b = .slice (some ⟨B, o, none⟩) n' c' ∧ rdA F d l = comb A (rdA g d l') ∧ l'.length + 2 ≤ g ∧ g ≤ F ∧ A.len + l'.length ≤ l.length ∧
      BIn wr (some ⟨B, o, none⟩) n' c' l' ∧ wr.ownsRow w.heap.size 45 3 i A.len xs ∧ OwnV wr w.heap.size A xs L ∧ (ob i ++ L).Nodup ∧ Below w.heap.size w wr) (fun b _ _ => match b with | .slice _ n _ => n | _ => 0)
    case atStart => exact ⟨F, l, off, n, c, .nil, [], [], rfl, (comb_nil _).symm, hf, Nat.le_refl _, by simp [Tr.len], HI.out, World.ownsRow_nil _ _ _ _, ⟨rfl, rfl⟩, List.nodup_nil, Below.refl _ _⟩
    case round =>
      obtain ⟨g, l', o, n', c', A, xs, L, rfl, hR, hg, hgF, hAl, hb, hown, hV, hN, hbel⟩ := hrel
      have hn' : l'.length = n' := hb.1.1
      by_cases hp : 0 < n'
      · have hpi : (0 : Int) < (n' : Int) := by omega
        obtain ⟨g, rfl⟩ : ∃ g', g = g' + 1 := ⟨g - 1, by omega⟩
        obtain ⟨x, y, rfl⟩ : ∃ x y, l' = x :: y := by cases l' with
          | nil => simp at hn'; omega
          | cons x y => exact ⟨x, y, rfl⟩
        have HO := Lib.hid hown
        have HV := Lib.hid hV
        have HN := Lib.hid hN
        have HB := Lib.hid hb
        have HR := Lib.hid hR
        have hAl2 := Lib.hid hAl
        clear hown hV hN hb hR hAl
        have hC := IH'.out g (by omega) d (x :: y) (wr.alloc (.cells #[.int .u8 0, .slice none 0 0, .slice none 0 0] 45)) (some ⟨B, o, none⟩) n' c' (by omega) (by have := HL.out; have := hAl2.out; omega) hd (HB.out.below ((Below.refl _ _).alloc (Nat.le_refl _) _))
        cases hE : rd g d (x :: y) with
        | error z =>
          rw [hE] at hC
          have HC := Lib.hid (rd_bad rfl hC)
          have HE := Lib.hid hE
          clear hC hE
          go_wp2_with (first | (go_at_call 58; refine HC.out.mono ?_; rintro e w2 ⟨rfl, hb2⟩))
          all_goals exact ⟨rfl, RaIs.err (by rw [HR.out]; exact rdA_err A HE.out) (hbel.trans (((Below.refl _ wr).alloc (Nat.le_refl _) _).trans (hb2.mono (by simp)) |>.mono hbel.size))⟩
        | ok p =>
          obtain ⟨t, b, k, r⟩ := p
          rw [hE] at hC
          have HC := Lib.hid (rd_good rfl hC)
          have HE := Lib.hid hE
          have hrl := rd_len _ _ _ hE
          have D1 := Lib.hid (Blk.new wr 45 [.int .u8 0, .slice none 0 0, .slice none 0 0])
          clear hC hE
          go_wp2_with (first | (go_at_call 58; refine HC.out.mono ?_; rintro e w2 ⟨v1, v2, ar, cr, Lk, rfl, hV2, hN2, hbr, hB1, hb2⟩; obtain ⟨o', rfl⟩ := hB1 _ _ rfl; obtain ⟨a1, c1, a2, c2, _, rfl, rfl, hit⟩ := hV2.item; have HV2 := Lib.hid hV2; have HN2 := Lib.hid hN2; have HBR := Lib.hid hbr; have D2 := Lib.hid (D1.out.below' hb2); have hb3 : ∀ g, g < wr.heap.size → w2.heap[g]? = wr.heap[g]? := fun g hg => (hb2.block g (by simp only [World.size_alloc]; omega)).trans (Below.heap_alloc _ _ g hg); have hs3 : wr.heap.size < w2.heap.size := (by have := hb2.size; simp only [World.size_alloc] at this; omega); have HK := Lib.hid (fun cs cs2 => mid_keep (cs := cs) (cs2 := cs2) (ty := 45) hb3 hs3); have HO4 := Lib.hid (fun cs cs2 => own_keep HO.out (fun g hg => by have h1 := (own_ob_lt HO.out g hg).2; exact (HK.out cs cs2 g (.inl h1)).trans (hb3 g h1))); have HB3 := Lib.hid hb3; clear hV2 hN2 hbr hit hb3) | (refine wpList_store_row (P := Tryz.prog) rfl 45 (.tmp 6) (.tmp 14) rfl wr.heap.size #[.int .u8 (t : Nat), .slice a1 b.length c1, .slice a2 k.len c2] rfl rfl 45 _ D2.out info25 rfl (all_item _ _ _ _ _ _ _) ?_; have D3 := Lib.hid (D2.out.setRow [.int .u8 (t : Nat), .slice a1 b.length c1, .slice a2 k.len c2])) | (refine wpList_load_row (P := Tryz.prog) rfl 45 (.tmp 6) rfl wr.heap.size rfl 45 _ _ _ D3.out Tryz.underlying45 rfl info25 ?_) | (at_builtin; refine wpList_append_lies _ rfl (.tmp 16) (.tmp 18) 43 rfl w.heap.size 45 i25 _ 3 56 Tryz.underlying43 hi25 hz25 hs25 hy25 rfl (by decide) u5 A.len xs rfl (HO4.out _ _) ⟨w2.heap.size, 0, none⟩ 1 1 [.int .u8 (t : Nat), .slice a1 b.length c1, .slice a2 k.len c2] rfl rfl (news_three _ _ _ _ _) (HV2.out.cell1) (by decide) (by have := hAl2.out; have := HL.out; simp only [maxLen]; omega) (by have := hAl2.out; have := HL.out; omega) (by have := hbel.size; simp; omega) _ rfl ?_; intro g5 cap5 w5 hown5 hg5 hat5 hlt5))
          have hb22 : Below w.heap.size w w2 := hbel.trans ((((Below.refl _ wr).alloc (Nat.le_refl _) _).trans (hb2.mono (by simp))).mono hbel.size)
          have hb4 := (below_setRow' hb22 hbel.size #[.int .u8 (t : Nat), .slice a1 b.length c1, .slice a2 k.len c2]).alloc (by have := hb22.size; simpa using this) (.cells #[.int .u8 (t : Nat), .slice a1 b.length c1, .slice a2 k.len c2] 45)
          have hb5 := hb4.grown hg5 hb4.size (fun x hx => (own_ob_lt HO.out x (by rw [ob, hx]; simp)).1)
          have hV2 : OwnV w2 (wr.heap.size + 1) (.node t b k .nil) [.int .u8 (t : Nat), .slice a1 b.length c1, .slice a2 k.len c2] Lk := by have := HV2.out; simpa only [World.size_alloc] using this
          have hP := own_push (n := A.len + 1) (cap := cap5) HO.out HV.out HN.out HB3.out (Nat.lt_succ_self _) (by have := hbel.size; omega) hV2 HN2.out (HK.out _ _) (by omega) (by simp) rfl hg5 hat5
          have hBR := HBR.out.at hBw hb22 hb5
          have hAL := hAl2.out
          go_roundw
          case rel =>
            refine ⟨g, r, o', r.length, cr, A.app (.node t b k .nil), xs ++ [.int .u8 (t : Nat), .slice a1 b.length c1, .slice a2 k.len c2], L ++ Lk, rfl, ?_, by omega, by omega, ?_, hBR, ?_, hP.1, hP.2, hb5⟩
            · rw [HR.out]; exact rdA_ok A HE.out
            · rw [Tr.len_app]; simp only [Tr.len]; omega
            · rw [Tr.len_app]; exact hown5
          case measure => simp only; omega
      · obtain rfl : n' = 0 := by omega
        obtain rfl : l' = [] := List.eq_nil_of_length_eq_zero hn'
        have HR := Lib.hid hR
        have HV := Lib.hid hV
        have HN := Lib.hid hN
        have HO := Lib.hid hown
        have hA2 : A.len ≤ 1048576 := by have := HL.out; omega
        clear hR hV hN hown hb
        go_wp2
        go_ret
        exact RaIs.good (by rw [HR.out, rdA_nil]; simp [comb, Tr.app_nil]) hbel hA2 HO.out HV.out HN.out
theorem read_both : ∀ F : Nat,
    (∀ g, g ≤ F → ∀ (d : Nat) (l : List Nat) (w : World) (a : Option Addr) (n c : Nat), l.length + 1 ≤ g → l.length ≤ 65536 → d ≤ 65536 → BIn w a n c l → Calls Tryz.prog 58 #[.slice a n c, .int .i64 (d : Nat)] w (RdIs a (rd g d l) w)) ∧
    (∀ g, g ≤ F → ∀ (d : Nat) (l : List Nat) (w : World) (a : Option Addr) (n c : Nat), l.length + 2 ≤ g → l.length ≤ 65536 → d ≤ 65536 → BIn w a n c l → Calls Tryz.prog 94 #[.slice a n c, .int .i64 (d : Nat)] w (RaIs (rdA g d l) w)) := by
  intro F
  induction F with
  | zero => exact ⟨fun g hg d l w a n c h => by omega, fun g hg d l w a n c h => by omega⟩
  | succ F ih =>
    have h1 : ∀ g, g ≤ F + 1 → ∀ (d : Nat) (l : List Nat) (w : World) (a : Option Addr) (n c : Nat), l.length + 1 ≤ g → l.length ≤ 65536 → d ≤ 65536 → BIn w a n c l → Calls Tryz.prog 58 #[.slice a n c, .int .i64 (d : Nat)] w (RdIs a (rd g d l) w) := by
      intro g hg d l w a n c h1 h2 h3 h4
      rcases Nat.lt_or_ge g (F + 1) with h | h
      · exact ih.1 g (by omega) d l w a n c h1 h2 h3 h4
      · obtain rfl : g = F + 1 := by omega
        exact read_step F (ih.2 F (Nat.le_refl _)) d l w a n c (by omega) h2 h3 h4
    refine ⟨h1, fun g hg d l w a n c h2 h3 h4 h5 => ?_⟩
    exact readAll_step g (fun g' hg' => h1 g' (by omega)) d l w a n c h2 h3 h4 h5
theorem read_any (d : Nat) (l : List Nat) (w : World) (a : Option Addr) (n c : Nat) (hl : l.length ≤ 65536) (hd : d ≤ 65536) (hin : BIn w a n c l) :
    Calls Tryz.prog 58 #[.slice a n c, .int .i64 (d : Nat)] w (RdIs a (rd (l.length + 1) d l) w) := (read_both _).1 _ (Nat.le_refl _) d l w a n c (Nat.le_refl _) hl hd hin
end Go.Proofs.YtbabpmncdphnjaaGreat
namespace Go.Proofs.YtbabpmncdphnjaaGreat
open Go.RowKit
set_option linter.unusedVariables false
set_option maxRecDepth 100000
theorem assert26 (c : Int) (w : World) : (Instr.typeAssert (.iface 27 (.int .i64 c)) 20 27 false).run Tryz.prog w = .ok (.int .i64 c) w := by kernel_rfl
theorem why_any (c : Int) (w : World) : Calls Tryz.prog 56 #[.iface 27 (.int .i64 c)] w fun e w' => e = .returned (.int .i64 c) ∧ w = w' := by
  have h := assert26 c
  go_enter Tryz.func56, Tryz.ntmps56
  go_wp2
  go_ret
  exact ⟨rfl, rfl⟩
set_option maxHeartbeats 2000000 in
theorem catchD (p q : Nat) (c : Int) (ti : Array Value) (tq : TypeId) (x : Int) (w : World) (hne : p ≠ q) (hp : w.heap[p]? = some (.cells ti 45 (0, 0))) (hpz : ti.size = 3) (hq : Blk w q 27 [.int .i64 x]) :
    CallsD Tryz.prog 55 #[.pointer (some ⟨p, 0, none⟩), .pointer (some ⟨q, 0, none⟩)] (.panicking [{ v := .iface 27 (.int .i64 c), recovered := false }]) w fun e u' w' =>
      e = .returned (.tuple #[]) ∧ u' = .panicking [{ v := .iface 27 (.int .i64 c), recovered := true }] ∧ w' = (w.setRow p #[.int .u8 0, .slice none 0 0, .slice none 0 0]).setCell ⟨q, 0, none⟩ (.int .i64 c) := by
  have hz : q < w.heap.size := hq.lt
  refine callsD_of_wpS Tryz.func55 rfl fun c₀ cs hu => ?_
  apply wpS_seq
  apply wpS_region
  simp [wpOpsS, go_sem, recoverD, hu, Tryz.ntmps55, Exit.thenS]
  refine wpS_of_wp ?_
  have e1 : (#[Value.pointer (some { block := p, off := 0 }), Value.pointer (some { block := q, off := 0 })] ++
          ((Array.replicate 7 undef).setIfInBounds 1 (Value.iface 27 (Value.int IntKind.i64 c))).setIfInBounds 0
            (Value.iface 27 (Value.int IntKind.i64 c))) = #[Value.pointer (some { block := p, off := 0 }), Value.pointer (some { block := q, off := 0 }), (Value.iface 27 (Value.int IntKind.i64 c)), (Value.iface 27 (Value.int IntKind.i64 c)), undef, undef, undef, undef, undef] := rfl
  rw [e1]
  have hb0 : Tryz.prog.built 45 [] = some #[.int .u8 0, .slice none 0 0, .slice none 0 0] := by kernel_rfl
  have HP := Lib.hid hp
  have HQ := Lib.hid (hq.row #[.int .u8 0, .slice none 0 0, .slice none 0 0] (Ne.symm hne))
  have hq1 := (HQ.out).cell 0
  have hq2 := (HQ.out).free 0
  clear hp hq
  generalize hQ : (bodyPostS Tryz.prog Tryz.f55 c₀ cs fun e u' w' => _) = QQ
  have HQQ := Lib.hid hQ
  clear hQ
  go_wp2_with (first | (go_at_call 56; refine (why_any c _).mono ?_; rintro e w' ⟨rfl, rfl⟩) | (refine wpList_store_row (P := Tryz.prog) rfl 45 (.tmp 0) (.tmp 6) rfl p #[.int .u8 0, .slice none 0 0, .slice none 0 0] rfl rfl 45 _ HP.out info25 hpz (all_item _ _ _ _ _ _ _) ?_))
  rw [← HQQ.out]
  exact ⟨rfl, _, rfl, .tuple #[], by simp [results, Tryz.results55], rfl, rfl, rfl⟩
theorem idleD (p q : Addr) (w : World) :
    CallsD Tryz.prog 55 #[.pointer (some p), .pointer (some q)] .returning w fun e u' w' => e = .returned (.tuple #[]) ∧ u' = .returning ∧ w = w' := by
  refine callsD_of_wpS Tryz.func55 rfl fun c₀ cs hu => ?_
  apply wpS_seq
  apply wpS_region
  simp [wpOpsS, go_sem, recoverD, hu, Tryz.ntmps55, Exit.thenS]
  refine wpS_of_wp ?_
  generalize hQ : (bodyPostS Tryz.prog Tryz.f55 c₀ cs fun e u' w' => _) = QQ
  have HQQ := Lib.hid hQ
  clear hQ
  have e1 : (#[Value.pointer (some p), Value.pointer (some q)] ++ ((Array.replicate 7 undef).setIfInBounds 1 Value.nilIface).setIfInBounds 0 Value.nilIface) = #[Value.pointer (some p), Value.pointer (some q), Value.nilIface, Value.nilIface, undef, undef, undef, undef, undef] := rfl
  rw [e1]
  go_wp2
  rw [← HQQ.out]
  exact ⟨rfl, c₀.mode, rfl, .tuple #[], by simp [results, Tryz.results55], rfl, hu, rfl⟩
theorem resD (tmps : Array Value) (p q : Nat) (cs : Array Value) (x : Int) (w : World) (h2 : tmps.getD 2 undef = .pointer (some ⟨p, 0, none⟩)) (h3 : tmps.getD 3 undef = .pointer (some ⟨q, 0, none⟩)) (hp : w.heap[p]? = some (.cells cs 45 (0, 0))) (hc : cs.size = 3) (hq : Blk w q 27 [.int .i64 x]) :
    (results Tryz.f33 tmps).run Tryz.prog w = .ok (.tuple #[.agg cs, .int .i64 x]) w := by
  have h2' : tmps[2]?.getD undef = .pointer (some ⟨p, 0, none⟩) := by simpa using h2
  have h3' : tmps[3]?.getD undef = .pointer (some ⟨q, 0, none⟩) := by simpa using h3
  have hq1 := hq.cell 0
  simp at hq1
  have hl := run_loadVar_row (P := Tryz.prog) w p 45 45 cs (0, 0) _ hp Tryz.underlying45 rfl (by rw [info25, hc])
  have hl2 : (loadVar 27 ⟨q, 0, none⟩).run Tryz.prog w = .ok (.int .i64 x) w := by simp [go_sem, hq1]
  simp [results, Tryz.results33, h2', h3', asAddr, hl, hl2]
def DecIs (R : Except Nat (Nat × List Nat × Tr)) (w : World) (e : Ending) (w' : World) : Prop :=
  Below w.heap.size w w' ∧ match R with
  | .error c => e = .returned (.tuple #[.agg #[.int .u8 0, .slice none 0 0, .slice none 0 0], .int .i64 (c : Nat)])
  | .ok (t, b, k) => ∃ v1 v2 L, e = .returned (.tuple #[.agg #[.int .u8 (t : Nat), v1, v2], .int .i64 0]) ∧ OwnV w' w.heap.size (.node t b k .nil) [.int .u8 (t : Nat), v1, v2] L ∧ L.Nodup
theorem dec_long {l : List Nat} (h : 65536 < l.length) : decE l = .error 121 := by simp [decE, h]
theorem dec_bad {l : List Nat} {c : Nat} (h : ¬ 65536 < l.length) (h1 : rd (l.length + 1) 1 l = .error c) : decE l = .error c := by simp [decE, h, h1]
theorem dec_more {l : List Nat} {t b k r} (h : ¬ 65536 < l.length) (h1 : rd (l.length + 1) 1 l = .ok (t, b, k, r)) (h2 : r ≠ []) : decE l = .error 126 := by simp [decE, h, h1, h2]
theorem dec_good {l : List Nat} {t b k} (h : ¬ 65536 < l.length) (h1 : rd (l.length + 1) 1 l = .ok (t, b, k, [])) : decE l = .ok (t, b, k) := by simp [decE, h, h1]
theorem exitD_bad {R : Ending → World → Prop} {tmps : Array Value} (p q : Nat) (c : Int) (ti : List Value) (x : Int) (wx : World) (hne : p ≠ q) (hp : Blk wx p 45 ti) (hpz : ti.length = 3) (hq : Blk wx q 27 [.int .i64 x])
    (h2 : tmps.getD 2 undef = .pointer (some ⟨p, 0, none⟩)) (h3 : tmps.getD 3 undef = .pointer (some ⟨q, 0, none⟩))
    (hR : R (.returned (.tuple #[.agg #[.int .u8 0, .slice none 0 0, .slice none 0 0], .int .i64 c])) ((wx.setRow p #[.int .u8 0, .slice none 0 0, .slice none 0 0]).setCell ⟨q, 0, none⟩ (.int .i64 c))) :
    bodyPostD Tryz.prog Tryz.f33 R (Exit.panic [{ v := .iface 27 (.int .i64 c), recovered := false }]) { tmps := tmps, defers := [{ target := Target.fn (Fn.func 55) #[.pointer (some ⟨p, 0, none⟩), .pointer (some ⟨q, 0, none⟩)], args := #[] }] } wx := by
  refine leaves_cons (f := 55) (args := #[.pointer (some ⟨p, 0, none⟩), .pointer (some ⟨q, 0, none⟩)]) (by simp) (by simp [go_sem]) ?_
  refine (catchD p q c _ 0 x _ hne hp (by simpa using hpz) hq).mono ?_
  rintro e u' w'' ⟨rfl, rfl, rfl⟩
  have hp2 := (hp.setRow [.int .u8 0, .slice none 0 0, .slice none 0 0]).other ⟨q, 0, none⟩ (.int .i64 c) hne
  have hq2 := (hq.row #[.int .u8 0, .slice none 0 0, .slice none 0 0] (Ne.symm hne)).set 0 (.int .i64 c)
  exact ⟨_, resD tmps p q _ c _ h2 h3 hp2 rfl hq2, hR⟩
theorem exitD_good {R : Ending → World → Prop} {tmps : Array Value} (p q : Nat) (ti : List Value) (x : Int) (wx : World) (hp : Blk wx p 45 ti) (hpz : ti.length = 3) (hq : Blk wx q 27 [.int .i64 x])
    (h2 : tmps.getD 2 undef = .pointer (some ⟨p, 0, none⟩)) (h3 : tmps.getD 3 undef = .pointer (some ⟨q, 0, none⟩))
    (hR : R (.returned (.tuple #[.agg ti.toArray, .int .i64 x])) wx) :
    bodyPostD Tryz.prog Tryz.f33 R Exit.ret { tmps := tmps, defers := [{ target := Target.fn (Fn.func 55) #[.pointer (some ⟨p, 0, none⟩), .pointer (some ⟨q, 0, none⟩)], args := #[] }] } wx := by
  refine leaves_cons (f := 55) (args := #[.pointer (some ⟨p, 0, none⟩), .pointer (some ⟨q, 0, none⟩)]) (by simp) (by simp [go_sem]) ?_
  refine (idleD _ _ _).mono ?_
  rintro e u' w'' ⟨rfl, rfl, rfl⟩
  exact ⟨_, resD tmps p q _ x _ h2 h3 hp (by simpa using hpz) hq, hR⟩
theorem DecIs.err {R : Except Nat (Nat × List Nat × Tr)} {w w' : World} {c : Nat} (h : R = .error c) (hb : Below w.heap.size w w') : DecIs R w (.returned (.tuple #[.agg #[.int .u8 0, .slice none 0 0, .slice none 0 0], .int .i64 (c : Nat)])) w' := by
  subst h; exact ⟨hb, rfl⟩
theorem DecIs.good {R : Except Nat (Nat × List Nat × Tr)} {w w' : World} {t : Nat} {b : List Nat} {k : Tr} (h : R = .ok (t, b, k)) (hb : Below w.heap.size w w') {v1 v2 : Value} {L : List Nat} (h1 : OwnV w' w.heap.size (.node t b k .nil) [.int .u8 (t : Nat), v1, v2] L) (h2 : L.Nodup) :
    DecIs R w (.returned (.tuple #[.agg #[.int .u8 (t : Nat), v1, v2], .int .i64 0])) w' := by
  subst h; exact ⟨hb, v1, v2, L, rfl, h1, h2⟩
theorem below_two {w wx : World} (hb : Below w.heap.size w wx) (cs : Array Value) (v : Value) : Below w.heap.size w ((wx.setRow w.heap.size cs).setCell ⟨w.heap.size + 1, 0, none⟩ v) :=
  (below_setRow' hb (Nat.le_refl _) cs).grown (grown_setCell _ _ v) (by have := hb.size; simpa using this) (fun k hk => by injection hk with hk; simp at hk; omega)
set_option maxRecDepth 100000 in
set_option maxHeartbeats 4000000 in
theorem Decode_any (l : List Nat) (w : World) (a : Option Addr) (n c : Nat) (hin : BIn w a n c l) : Calls Tryz.prog 33 #[.slice a n c] w (DecIs (decE l) w) := by
  have hmf : ∀ (fn : Fn) (first cap : Array Value) (w : World), (Instr.makeFunc fn first cap).run Tryz.prog w = .ok (.func fn first cap) w := fun _ _ _ _ => rfl
  have hn : l.length = n := hin.1.1
  have B0 := Blk.new w 45 [.int .u8 0, .slice none 0 0, .slice none 0 0]
  have B1 := (B0.alloc (.cells #[.int .i64 0] 27))
  have B2 := Blk.new2 w (.cells #[.int .u8 0, .slice none 0 0, .slice none 0 0] 45) 27 [.int .i64 0]
  have hbel : Below w.heap.size w ((w.alloc (.cells #[.int .u8 0, .slice none 0 0, .slice none 0 0] 45)).alloc (.cells #[.int .i64 0] 27)) := ((Below.refl _ w).alloc (Nat.le_refl _) _).alloc (by simp) _
  by_cases hlong : 65536 < l.length
  · have hli : ¬ (n : Int) ≤ 65536 := by omega
    have HI := Lib.hid hin
    have H1 := Lib.hid B1
    have H2 := Lib.hid B2
    clear hin B0 B1 B2
    go_enter_defers Tryz.func33, Tryz.ntmps33
    go_wp2_with (first | (go_at_call 57; refine (must_t (by first | (simp; omega) | (simp; done) | rfl) _ _).mono ?_; rintro e w' ⟨rfl, rfl⟩) | (go_at_call 57; refine (must_f (by first | (simp; omega) | (simp; done) | rfl) _ _).mono ?_; rintro e w' ⟨rfl, rfl⟩))
    exact exitD_bad w.heap.size (w.heap.size + 1) 121 _ _ _ (by omega) H1.out rfl H2.out rfl rfl (DecIs.err (dec_long hlong) (below_two hbel _ _))
  · have hli : (n : Int) ≤ 65536 := by omega
    have hC := read_any 1 l _ a n c (by omega) (by omega) (hin.below hbel)
    have HBEL := Lib.hid hbel
    have hs0 : (((w.alloc (.cells #[.int .u8 0, .slice none 0 0, .slice none 0 0] 45)).alloc (.cells #[.int .i64 0] 27))).heap.size = w.heap.size + 2 := by simp
    have HS := Lib.hid hs0
    clear hin B0 hbel hs0
    cases hR : rd (l.length + 1) 1 l with
    | error x =>
      rw [hR] at hC
      have HC := Lib.hid (rd_bad rfl hC)
      have HR := Lib.hid hR
      have H1 := Lib.hid B1
      have H2 := Lib.hid B2
      clear hR hC B1 B2
      go_enter_defers Tryz.func33, Tryz.ntmps33
      go_wp2_with (first | (go_at_call 57; refine (must_t (by first | (simp; omega) | (simp; done) | rfl) _ _).mono ?_; rintro e w' ⟨rfl, rfl⟩) | (go_at_call 58; refine HC.out.mono ?_; rintro e w2 ⟨rfl, hb2⟩))
      exact exitD_bad w.heap.size (w.heap.size + 1) x _ _ _ (by omega) (H1.out.below' hb2) rfl (H2.out.below' hb2) rfl rfl (DecIs.err (dec_bad hlong HR.out) (below_two (HBEL.out.trans (hb2.mono HBEL.out.size)) _ _))
    | ok y =>
      obtain ⟨t, b, k, r⟩ := y
      rw [hR] at hC
      have HC := Lib.hid (rd_good rfl hC)
      have HR := Lib.hid hR
      have H1 := Lib.hid B1
      have H2 := Lib.hid B2
      clear hR hC B1 B2
      by_cases hr : r = []
      · subst hr
        go_enter_defers Tryz.func33, Tryz.ntmps33
        go_wp2_with (first | (go_at_call 57; refine (must_t (by first | (simp; omega) | (simp; done) | rfl) _ _).mono ?_; rintro e w' ⟨rfl, rfl⟩) | (go_at_call 58; refine HC.out.mono ?_; rintro e w2 ⟨v1, v2, ar, cr, L, rfl, hV2, hN2, hbr, hB1, hb2⟩; obtain ⟨a1, c1, a2, c2, _, rfl, rfl, hit⟩ := hV2.item; have HV2 := Lib.hid hV2; have HN2 := Lib.hid hN2; have D1 := Lib.hid (H1.out.below' hb2); have D2 := Lib.hid (H2.out.below' hb2); clear hV2 hN2 hbr hit hB1) | (refine wpList_store_row (P := Tryz.prog) rfl 45 (.tmp 2) (.tmp 13) rfl w.heap.size #[.int .u8 (t : Nat), .slice a1 b.length c1, .slice a2 k.len c2] rfl rfl 45 _ D1.out info25 rfl (all_item _ _ _ _ _ _ _) ?_; have D3 := Lib.hid (D1.out.setRow [.int .u8 (t : Nat), .slice a1 b.length c1, .slice a2 k.len c2]); have D4 := Lib.hid (D2.out.row #[.int .u8 (t : Nat), .slice a1 b.length c1, .slice a2 k.len c2] (show w.heap.size + 1 ≠ w.heap.size by omega))) | (refine wpList_load_row (P := Tryz.prog) rfl 45 (.tmp 2) rfl w.heap.size rfl 45 _ _ _ D3.out Tryz.underlying45 rfl info25 ?_) | (refine wpList_store_row (P := Tryz.prog) rfl 45 (.tmp 2) (.tmp 19) rfl w.heap.size #[.int .u8 (t : Nat), .slice a1 b.length c1, .slice a2 k.len c2] rfl rfl 45 _ D3.out info25 rfl (all_item _ _ _ _ _ _ _) ?_; have D5 := Lib.hid (D3.out.setRow [.int .u8 (t : Nat), .slice a1 b.length c1, .slice a2 k.len c2]); have D6 := Lib.hid (D4.out.row #[.int .u8 (t : Nat), .slice a1 b.length c1, .slice a2 k.len c2] (show w.heap.size + 1 ≠ w.heap.size by omega)); have q1 := D6.out.cell 0; have q2 := D6.out.free 0; simp at q1))
        have hb22 : Below w.heap.size w w2 := HBEL.out.trans (hb2.mono HBEL.out.size)
        have hb9 := below_two (below_setRow' hb22 (Nat.le_refl _) #[.int .u8 (t : Nat), .slice a1 b.length c1, .slice a2 k.len c2]) #[.int .u8 (t : Nat), .slice a1 b.length c1, .slice a2 k.len c2] (.int .i64 0)
        have hlt := HV2.out.lt
        rw [HS.out] at hlt
        have hV := (HV2.out.keep (w' := ((w2.setRow w.heap.size #[.int .u8 (t : Nat), .slice a1 b.length c1, .slice a2 k.len c2]).setRow w.heap.size #[.int .u8 (t : Nat), .slice a1 b.length c1, .slice a2 k.len c2]).setCell ⟨w.heap.size + 1, 0, none⟩ (.int .i64 0)) (fun g hg => by
          have h1 := (hlt g hg).1
          rw [heap_setCell_other _ _ g _ (by simp; omega), setRow_other _ w.heap.size g _ (by omega), setRow_other _ w.heap.size g _ (by omega)])).mono (base' := w.heap.size) (by rw [HS.out]; omega)
        exact exitD_good w.heap.size (w.heap.size + 1) _ 0 _ (D5.out.other _ _ (by simp)) rfl (D6.out.set 0 (.int .i64 0)) rfl rfl (DecIs.good (dec_good hlong HR.out) hb9 hV HN2.out)
      · have hr0 : r.length ≠ 0 := fun h => hr (List.eq_nil_of_length_eq_zero h)
        go_enter_defers Tryz.func33, Tryz.ntmps33
        go_wp2_with (first | (go_at_call 57; refine (must_t (by first | (simp; omega) | (simp; done) | rfl) _ _).mono ?_; rintro e w' ⟨rfl, rfl⟩) | (go_at_call 58; refine HC.out.mono ?_; rintro e w2 ⟨v1, v2, ar, cr, L, rfl, hV2, hN2, hbr, hB1, hb2⟩; obtain ⟨a1, c1, a2, c2, _, rfl, rfl, hit⟩ := hV2.item; have HV2 := Lib.hid hV2; have HN2 := Lib.hid hN2; have D1 := Lib.hid (H1.out.below' hb2); have D2 := Lib.hid (H2.out.below' hb2); clear hV2 hN2 hbr hit hB1) | (refine wpList_store_row (P := Tryz.prog) rfl 45 (.tmp 2) (.tmp 13) rfl w.heap.size #[.int .u8 (t : Nat), .slice a1 b.length c1, .slice a2 k.len c2] rfl rfl 45 _ D1.out info25 rfl (all_item _ _ _ _ _ _ _) ?_; have D3 := Lib.hid (D1.out.setRow [.int .u8 (t : Nat), .slice a1 b.length c1, .slice a2 k.len c2]); have D4 := Lib.hid (D2.out.row #[.int .u8 (t : Nat), .slice a1 b.length c1, .slice a2 k.len c2] (show w.heap.size + 1 ≠ w.heap.size by omega))) | (go_at_call 57; refine (must_f (by first | (simp; omega) | (simp; done) | rfl) _ _).mono ?_; rintro e w' ⟨rfl, rfl⟩))
        exact exitD_bad w.heap.size (w.heap.size + 1) 126 _ _ _ (by omega) D3.out rfl D4.out rfl rfl (DecIs.err (dec_more hlong HR.out hr) (below_two (below_setRow' (HBEL.out.trans (hb2.mono HBEL.out.size)) (Nat.le_refl _) _) _ _))
end Go.Proofs.YtbabpmncdphnjaaGreat
namespace Go.Proofs.YtbabpmncdphnjaaGreat
open Go.RowKit
set_option linter.unusedVariables false
set_option maxRecDepth 100000
set_option maxHeartbeats 2000000 in
theorem catchE (p q : Nat) (c : Int) (v0 : Value) (x : Int) (w : World) (hne : p ≠ q) (hp : Blk w p 22 [v0]) (hq : Blk w q 27 [.int .i64 x]) :
    CallsD Tryz.prog 75 #[.pointer (some ⟨p, 0, none⟩), .pointer (some ⟨q, 0, none⟩)] (.panicking [{ v := .iface 27 (.int .i64 c), recovered := false }]) w fun e u' w' =>
      e = .returned (.tuple #[]) ∧ u' = .panicking [{ v := .iface 27 (.int .i64 c), recovered := true }] ∧ w' = (w.setCell ⟨p, 0, none⟩ (.slice none 0 0)).setCell ⟨q, 0, none⟩ (.int .i64 c) := by
  refine callsD_of_wpS Tryz.func75 rfl fun c₀ cs hu => ?_
  apply wpS_seq
  apply wpS_region
  simp [wpOpsS, go_sem, recoverD, hu, Tryz.ntmps75, Exit.thenS]
  refine wpS_of_wp ?_
  have e1 : (#[Value.pointer (some { block := p, off := 0 }), Value.pointer (some { block := q, off := 0 })] ++
          ((Array.replicate 6 undef).setIfInBounds 1 (Value.iface 27 (Value.int IntKind.i64 c))).setIfInBounds 0
            (Value.iface 27 (Value.int IntKind.i64 c))) = #[Value.pointer (some { block := p, off := 0 }), Value.pointer (some { block := q, off := 0 }), (Value.iface 27 (Value.int IntKind.i64 c)), (Value.iface 27 (Value.int IntKind.i64 c)), undef, undef, undef, undef] := rfl
  rw [e1]
  have hp1 := hp.cell 0
  have hp2 := hp.free 0
  have HQ := hq.other ⟨p, 0, none⟩ (.slice none 0 0) (Ne.symm hne)
  have hq1 := HQ.cell 0
  have hq2 := HQ.free 0
  simp at hp1 hq1
  clear hp hq HQ
  generalize hQ : (bodyPostS Tryz.prog Tryz.f75 c₀ cs fun e u' w' => _) = QQ
  have HQQ := Lib.hid hQ
  clear hQ
  go_wp2_with (go_at_call 56; refine (why_any c _).mono ?_; rintro e w' ⟨rfl, rfl⟩)
  rw [← HQQ.out]
  exact ⟨rfl, _, rfl, .tuple #[], by simp [results, Tryz.results75], rfl, rfl, rfl⟩
theorem idleE (p q : Addr) (w : World) :
    CallsD Tryz.prog 75 #[.pointer (some p), .pointer (some q)] .returning w fun e u' w' => e = .returned (.tuple #[]) ∧ u' = .returning ∧ w = w' := by
  refine callsD_of_wpS Tryz.func75 rfl fun c₀ cs hu => ?_
  apply wpS_seq
  apply wpS_region
  simp [wpOpsS, go_sem, recoverD, hu, Tryz.ntmps75, Exit.thenS]
  refine wpS_of_wp ?_
  generalize hQ : (bodyPostS Tryz.prog Tryz.f75 c₀ cs fun e u' w' => _) = QQ
  have HQQ := Lib.hid hQ
  clear hQ
  have e1 : (#[Value.pointer (some p), Value.pointer (some q)] ++ ((Array.replicate 6 undef).setIfInBounds 1 Value.nilIface).setIfInBounds 0 Value.nilIface) = #[Value.pointer (some p), Value.pointer (some q), Value.nilIface, Value.nilIface, undef, undef, undef, undef] := rfl
  rw [e1]
  go_wp2
  rw [← HQQ.out]
  exact ⟨rfl, c₀.mode, rfl, .tuple #[], by simp [results, Tryz.results75], rfl, hu, rfl⟩
theorem resE (tmps : Array Value) (p q : Nat) (a : Option Addr) (n c : Nat) (x : Int) (w : World) (h2 : tmps.getD 2 undef = .pointer (some ⟨p, 0, none⟩)) (h3 : tmps.getD 3 undef = .pointer (some ⟨q, 0, none⟩)) (hp : Blk w p 22 [.slice a n c]) (hq : Blk w q 27 [.int .i64 x]) :
    (results Tryz.f38 tmps).run Tryz.prog w = .ok (.tuple #[.slice a n c, .int .i64 x]) w := by
  have h2' : tmps[2]?.getD undef = .pointer (some ⟨p, 0, none⟩) := by simpa using h2
  have h3' : tmps[3]?.getD undef = .pointer (some ⟨q, 0, none⟩) := by simpa using h3
  have hq1 := hq.cell 0
  have hp1 := hp.cell 0
  simp at hq1 hp1
  have hl : (loadVar 22 ⟨p, 0, none⟩).run Tryz.prog w = .ok (.slice a n c) w := by simp [go_sem, hp1]
  have hl2 : (loadVar 27 ⟨q, 0, none⟩).run Tryz.prog w = .ok (.int .i64 x) w := by simp [go_sem, hq1]
  simp [results, Tryz.results38, h2', h3', asAddr, hl, hl2]
theorem exitE_bad {R : Ending → World → Prop} {tmps : Array Value} (p q : Nat) (c : Int) (v0 : Value) (x : Int) (wx : World) (hne : p ≠ q) (hp : Blk wx p 22 [v0]) (hq : Blk wx q 27 [.int .i64 x])
    (h2 : tmps.getD 2 undef = .pointer (some ⟨p, 0, none⟩)) (h3 : tmps.getD 3 undef = .pointer (some ⟨q, 0, none⟩))
    (hR : R (.returned (.tuple #[.slice none 0 0, .int .i64 c])) ((wx.setCell ⟨p, 0, none⟩ (.slice none 0 0)).setCell ⟨q, 0, none⟩ (.int .i64 c))) :
    bodyPostD Tryz.prog Tryz.f38 R (Exit.panic [{ v := .iface 27 (.int .i64 c), recovered := false }]) { tmps := tmps, defers := [{ target := Target.fn (Fn.func 75) #[.pointer (some ⟨p, 0, none⟩), .pointer (some ⟨q, 0, none⟩)], args := #[] }] } wx := by
  refine leaves_cons (f := 75) (args := #[.pointer (some ⟨p, 0, none⟩), .pointer (some ⟨q, 0, none⟩)]) (by simp) (by simp [go_sem]) ?_
  refine (catchE p q c v0 x _ hne hp hq).mono ?_
  rintro e u' w'' ⟨rfl, rfl, rfl⟩
  have hp2 := (hp.set 0 (.slice none 0 0)).other ⟨q, 0, none⟩ (.int .i64 c) hne
  have hq2 := (hq.other ⟨p, 0, none⟩ (.slice none 0 0) (Ne.symm hne)).set 0 (.int .i64 c)
  exact ⟨_, resE tmps p q none 0 0 c _ h2 h3 hp2 hq2, hR⟩
theorem exitE_good {R : Ending → World → Prop} {tmps : Array Value} (p q : Nat) (a : Option Addr) (n c : Nat) (x : Int) (wx : World) (hp : Blk wx p 22 [.slice a n c]) (hq : Blk wx q 27 [.int .i64 x])
    (h2 : tmps.getD 2 undef = .pointer (some ⟨p, 0, none⟩)) (h3 : tmps.getD 3 undef = .pointer (some ⟨q, 0, none⟩))
    (hR : R (.returned (.tuple #[.slice a n c, .int .i64 x])) wx) :
    bodyPostD Tryz.prog Tryz.f38 R Exit.ret { tmps := tmps, defers := [{ target := Target.fn (Fn.func 75) #[.pointer (some ⟨p, 0, none⟩), .pointer (some ⟨q, 0, none⟩)], args := #[] }] } wx := by
  refine leaves_cons (f := 75) (args := #[.pointer (some ⟨p, 0, none⟩), .pointer (some ⟨q, 0, none⟩)]) (by simp) (by simp [go_sem]) ?_
  refine (idleE _ _ _).mono ?_
  rintro e u' w'' ⟨rfl, rfl, rfl⟩
  exact ⟨_, resE tmps p q a n c x _ h2 h3 hp hq, hR⟩
def EncIs (R : Except Nat (List Nat)) (w : World) (e : Ending) (w' : World) : Prop :=
  Below w.heap.size w w' ∧ match R with
  | .error c => e = .returned (.tuple #[.slice none 0 0, .int .i64 (c : Nat)])
  | .ok l => ∃ a c, e = .returned (.tuple #[.slice a l.length c, .int .i64 0]) ∧ BIn w' a l.length c l
theorem EncIs.err {R : Except Nat (List Nat)} {w w' : World} {c : Nat} (h : R = .error c) (hb : Below w.heap.size w w') : EncIs R w (.returned (.tuple #[.slice none 0 0, .int .i64 (c : Nat)])) w' := by subst h; exact ⟨hb, rfl⟩
theorem EncIs.good {R : Except Nat (List Nat)} {w w' : World} {l : List Nat} (h : R = .ok l) (hb : Below w.heap.size w w') {a : Option Addr} {n c : Nat} (hn : l.length = n) (hi : BIn w' a n c l) : EncIs R w (.returned (.tuple #[.slice a n c, .int .i64 0])) w' := by
  subst h hn; exact ⟨hb, a, c, rfl, hi⟩
set_option maxRecDepth 100000 in
set_option maxHeartbeats 4000000 in
theorem Encode_any (w : World) (t : Nat) (b : List Nat) (k : Tr) (a : Option Addr) (c : Nat) (a' : Option Addr) (c' : Nat) (hin : ItIn w t a c a' c' b k) : Calls Tryz.prog 38 #[itV t a b.length c a' k.len c'] w (EncIs (encE t b k) w) := by
  have hmf : ∀ (fn : Fn) (first cap : Array Value) (w : World), (Instr.makeFunc fn first cap).run Tryz.prog w = .ok (.func fn first cap) w := fun _ _ _ _ => rfl
  generalize hbx : Obj.cells #[.int .u8 (t : Nat), .slice a b.length c, .slice a' k.len c'] 45 = bx
  have BX := (Blk.new w 45 [.int .u8 (t : Nat), .slice a b.length c, .slice a' k.len c'])
  have e0 : (Obj.cells [.int .u8 (t : Nat), .slice a b.length c, .slice a' k.len c'].toArray 45) = bx := hbx
  rw [e0] at BX
  have hW3 : ∃ W3, W3 = ((w.alloc bx).alloc (.cells #[.slice none 0 0] 22)).alloc (.cells #[.int .i64 0] 27) := ⟨_, rfl⟩
  have P3 := (Blk.new2 w bx 22 [.slice none 0 0]).alloc (.cells #[.int .i64 0] 27)
  have Q3 := Blk.new3 w bx (.cells #[.slice none 0 0] 22) 27 [.int .i64 0]
  have BX3 := (BX.alloc (.cells #[.slice none 0 0] 22)).alloc (.cells #[.int .i64 0] 27)
  have hbel : Below w.heap.size w (((w.alloc bx).alloc (.cells #[.slice none 0 0] 22)).alloc (.cells #[.int .i64 0] 27)) := (((Below.refl _ w).alloc (Nat.le_refl _) _).alloc (by simp) _).alloc (by simp; omega) _
  subst hbx
  have hs3 : (((w.alloc (Obj.cells #[.int .u8 (t : Nat), .slice a b.length c, .slice a' k.len c'] 45)).alloc (.cells #[.slice none 0 0] 22)).alloc (.cells #[.int .i64 0] 27)).heap.size = w.heap.size + 3 := by simp
  clear hW3
  generalize hW : (((w.alloc (Obj.cells #[.int .u8 (t : Nat), .slice a b.length c, .slice a' k.len c'] 45)).alloc (.cells #[.slice none 0 0] 22)).alloc (.cells #[.int .i64 0] 27)) = W at *
  have HIN := Lib.hid (hin.below hbel)
  have HS3 := Lib.hid hs3
  have HBX := Lib.hid BX3
  have HP := Lib.hid P3
  have HQ := Lib.hid Q3
  have HBEL := Lib.hid hbel
  have hC := size_any (k.sz + 1) k (Nat.lt_succ_self _) W t b a c a' c' 1 HIN.out (by decide)
  clear hin hs3 BX3 P3 Q3 hbel BX e0
  have hbt := fun (wx : World) (hb : Below w.heap.size w wx) (hs : w.heap.size + 3 ≤ wx.heap.size) (v x : Value) => ((hb.setCell (p := ⟨w.heap.size + 1, 0, none⟩) (by simp) v).setCell (p := ⟨w.heap.size + 1 + 1, 0, none⟩) (by simp; omega) x)
  have HBT := Lib.hid hbt
  clear hbt
  by_cases he : errI t b k 1 = 0
  · have HC := Lib.hid (hC.mono (fun e w' h => (⟨h.2.2 he, h.1⟩ : e = .returned (.int .i64 (capL (encI t b k).length : Nat)) ∧ Below W.heap.size W w')))
    by_cases hl : 65536 < (encI t b k).length
    · have HX := Lib.hid (encE_long he hl)
      have hcl : ¬ ((capL (encI t b k).length : Nat) : Int) ≤ 65536 := by unfold capL; omega
      clear hC he hl
      generalize capL (encI t b k).length = S at *
      go_enter_defers Tryz.func38, Tryz.ntmps38
      go_wp2_with (first | (refine wpList_load_row (P := Tryz.prog) rfl 45 (.tmp 1) rfl w.heap.size rfl 45 _ _ _ HBX.out Tryz.underlying45 rfl info25 ?_) | (go_at_call 76; (refine HC.out.mono ?_); rintro e w2 ⟨rfl, hb2⟩) | (go_at_call 57; refine (must_f (by first | (simp; omega) | (simp; done) | rfl) _ _).mono ?_; rintro e w' ⟨rfl, rfl⟩))
      exact exitE_bad (w.heap.size + 1) (w.heap.size + 1 + 1) 121 _ _ _ (by omega) (HP.out.below' hb2) (HQ.out.below' hb2) rfl rfl (EncIs.err HX.out (HBT.out _ (HBEL.out.trans (hb2.mono HBEL.out.size)) (by have := hb2.size; have := HS3.out; omega) _ _))
    · have HX := Lib.hid (encE_good he hl)
      have hcl : capL (encI t b k).length = (encI t b k).length := by unfold capL; omega
      have hll : ((encI t b k).length : Int) ≤ 65536 := by omega
      rw [hcl] at HC
      have HLL := Lib.hid hl
      have HLM := Lib.hid (show 0 + (encI t b k).length ≤ 1048576 by omega)
      have HLN := Lib.hid (show (encI t b k).length ≤ 65537 by omega)
      clear hC he hl hcl
      go_enter_defers Tryz.func38, Tryz.ntmps38
      go_wp2_with (first | (refine wpList_load_row (P := Tryz.prog) rfl 45 (.tmp 1) rfl w.heap.size rfl 45 _ _ _ HBX.out Tryz.underlying45 rfl info25 ?_) | (go_at_call 76; (refine HC.out.mono ?_); rintro e w2 ⟨rfl, hb2⟩; have HIN := Lib.hid (HIN.out.below hb2); have HBX := Lib.hid (HBX.out.below' hb2); have HP := Lib.hid (HP.out.below' hb2); have HQ := Lib.hid (HQ.out.below' hb2); have HBEL := Lib.hid (HBEL.out.trans (hb2.mono HBEL.out.size))) | (go_at_call 57; refine (must_t (by first | (simp; omega) | (simp; done) | rfl) _ _).mono ?_; rintro e w' ⟨rfl, rfl⟩) | (go_at_call 77; have hw := write_any (k.sz + 1) k (Nat.lt_succ_self _) w2 t b a c a' c' HIN.out w2 (Below.refl _ _) (.slice none 0 0) 0 [] (World.ownsRow_nil _ _ _ _) HLM.out HLN.out; (refine hw.mono ?_); rintro e w3 ⟨v3, rfl, hown, hgr, hat⟩; rw [Nat.zero_add, List.nil_append] at hown; obtain ⟨a3, c3, rfl⟩ := own_slice hown; have hb3 : Below w2.heap.size w2 w3 := (Below.refl _ w2).grown hgr (Nat.le_refl _) (fun x hx => by cases hx); have HO := Lib.hid hown; have HP := Lib.hid (HP.out.below' hb3); have HQ := Lib.hid (HQ.out.below' hb3); have q1 := HP.out.cell 0; have q2 := HP.out.free 0; have HQ2 := HQ.out.other ⟨w.heap.size + 1, 0, none⟩ (.slice a3 (encI t b k).length c3) (show w.heap.size + 1 + 1 ≠ w.heap.size + 1 by omega); have q3 := HQ2.cell 0; have q4 := HQ2.free 0; simp at q1 q3; have HQ3 := Lib.hid HQ2; clear HQ2))
      have hs := hb2.size
      have hs3' := HS3.out
      have hO2 := own_keep HO.out (w' := (w3.setCell ⟨w.heap.size + 1, 0, none⟩ (.slice a3 (encI t b k).length c3)).setCell ⟨w.heap.size + 1 + 1, 0, none⟩ (.int .i64 0)) (fun g hg => by
        have h1 := (own_ob_lt HO.out g hg).1
        rw [heap_setCell_other _ _ g _ (by simp; omega), heap_setCell_other _ _ g _ (by simp; omega)])
      obtain ⟨a4, c4, e4, hin4, _⟩ := own_in hO2 (item_enc8 HIN.out) (by have := HLN.out; omega)
      injection e4 with e4 e5 e6
      subst e4 e6
      have hpp := (HP.out.set 0 (.slice a3 (encI t b k).length c3)).other ⟨w.heap.size + 1 + 1, 0, none⟩ (.int .i64 0) (show w.heap.size + 1 ≠ w.heap.size + 1 + 1 by omega)
      have hqq := HQ3.out.set 0 (.int .i64 0)
      exact exitE_good (w.heap.size + 1) (w.heap.size + 1 + 1) a3 _ c3 0 _ hpp hqq rfl rfl (EncIs.good HX.out (HBT.out _ (HBEL.out.trans (hb3.mono HBEL.out.size)) (by have := hb3.size; omega) _ _) rfl hin4)
  · have HC := Lib.hid (hC.mono (fun e w' h => (⟨h.2.1 he, h.1⟩ : e = boom (errI t b k 1) ∧ Below W.heap.size W w')))
    have HX := Lib.hid (encE_err he)
    clear hC he
    generalize errI t b k 1 = E at *
    go_enter_defers Tryz.func38, Tryz.ntmps38
    go_wp2_with (first | (refine wpList_load_row (P := Tryz.prog) rfl 45 (.tmp 1) rfl w.heap.size rfl 45 _ _ _ HBX.out Tryz.underlying45 rfl info25 ?_) | (go_at_call 76; (refine HC.out.mono ?_); rintro e w2 ⟨rfl, hb2⟩))
    exact exitE_bad (w.heap.size + 1) (w.heap.size + 1 + 1) E _ _ _ (by omega) (HP.out.below' hb2) (HQ.out.below' hb2) rfl rfl (EncIs.err HX.out (HBT.out _ (HBEL.out.trans (hb2.mono HBEL.out.size)) (by have := hb2.size; have := HS3.out; omega) _ _))
end Go.Proofs.YtbabpmncdphnjaaGreat
namespace Go.Proofs.YtbabpmncdphnjaaGreat
open Go.RowKit
set_option linter.unusedVariables false
set_option maxRecDepth 100000
theorem take_eq_all {b b2 : List Nat} (hl : b.length = b2.length) (k : Nat) (hk : b.length ≤ k) (h : b.take k = b2.take k) : b = b2 := by
  rwa [List.take_of_length_le hk, List.take_of_length_le (by omega)] at h
theorem int_ne {x y : Nat} (h : x ≠ y) : ((x : Int) != (y : Int)) = true := by simp; omega
theorem take_ne {b b2 : List Nat} (k : Nat) (h1 : k < b.length) (h2 : k < b2.length) (h : b.getD k 0 ≠ b2.getD k 0) : b ≠ b2 := fun e => h (by rw [e])
set_option maxRecDepth 100000 in
set_option maxHeartbeats 4000000 in
theorem sameB_any (w : World) (a a' : Option Addr) (n c n' c' : Nat) (b b' : List Nat) (hb : BIn w a n c b) (hb' : BIn w a' n' c' b') :
    Calls Tryz.prog 8 #[.slice a n c, .slice a' n' c'] w fun e w' => e = .returned (.bool (decide (b = b'))) ∧ Below w.heap.size w w' := by
  have hn := hb.1.1
  have hn' := hb'.1.1
  by_cases hl : n = n'
  · subst hl
    have hm : n ≤ maxLen := hb.1.2.1
    unfold maxLen at hm
    have HA := Lib.hid hb
    have HB := Lib.hid hb'
    clear hb hb'
    go_enter Tryz.func8, Tryz.ntmps8
    go_wp2
    go_loopw [5] (fun i wr => ∃ k : Nat, k ≤ n ∧ i = .int .i64 k ∧ b.take k = b'.take k ∧ Below w.heap.size w wr) (fun i _ => n - (intOf i).toNat)
    case atStart => exact ⟨0, Nat.zero_le _, rfl, rfl, Below.refl _ _⟩
    case round =>
      obtain ⟨k, hk, rfl, htk, hbel⟩ := hrel
      have HT := Lib.hid htk
      clear htk
      by_cases hkn : k < n
      · obtain ⟨b1, o1, rfl, hc1⟩ := HA.out.1.2.2.2.resolve_left (by omega)
        obtain ⟨b2, o2, rfl, hc2⟩ := HB.out.1.2.2.2.resolve_left (by omega)
        have g1 := hc1 k hkn
        have g2 := hc2 k hkn
        have e1 : wr.cell? ⟨b1, o1 + k, none⟩ = some (.int .u8 (b.getD k 0 : Nat)) := (hbel.cell (World.block_lt_of_cell? w _ g1)).trans g1
        have e2 : wr.cell? ⟨b2, o2 + k, none⟩ = some (.int .u8 (b'.getD k 0 : Nat)) := (hbel.cell (World.block_lt_of_cell? w _ g2)).trans g2
        clear hc1 hc2 g1 g2
        have hki : (k : Int) < (n : Int) := by omega
        have hs1 := take_snoc b k (by omega)
        have hs2 := take_snoc b' k (by omega)
        have HS1 := Lib.hid hs1
        have HS2 := Lib.hid hs2
        clear hs1 hs2
        by_cases hxy : b.getD k 0 = b'.getD k 0
        · rw [hxy] at e1 HS1
          generalize b'.getD k 0 = x at *
          go_wp2_with fail
          go_quiet (fail)
          have hbel2 : Below w.heap.size w (wr.drewN nq) := below_drewN hbel nq
          go_wp2
          go_roundw
          case rel => exact ⟨k + 1, by omega, by go_num, by rw [HS1.out, HS2.out, HT.out], hbel2⟩
          case measure => simp [intOf]; omega
        · have hne := Lib.hid (take_ne k (by omega) (by omega) hxy)
          have hb1 : (((b.getD k 0 : Nat) : Int) != ((b'.getD k 0 : Nat) : Int)) = true := int_ne hxy
          generalize b.getD k 0 = x at *
          generalize b'.getD k 0 = y at *
          go_wp2_with fail
          go_quiet (fail)
          have hbel2 : Below w.heap.size w (wr.drewN nq) := below_drewN hbel nq
          go_wp2
          go_ret
          exact ⟨by rw [decide_eq_false hne.out]; rfl, hbel2⟩
      · have hki : ¬ (k : Int) < (n : Int) := by omega
        go_wp2
        go_ret
        exact ⟨by rw [decide_eq_true (take_eq_all (by omega) k (by omega) HT.out)]; rfl, hbel⟩
  · have hne : b ≠ b' := fun e => hl (by rw [← hn, ← hn', e])
    have hni : ((n : Int) != (n' : Int)) = true := int_ne hl
    have HNE := Lib.hid hne
    clear hb hb' hn hn' hne
    go_enter Tryz.func8, Tryz.ntmps8
    go_wp2
    go_ret
    exact ⟨by rw [decide_eq_false HNE.out]; rfl, Below.refl _ _⟩
def eqI (t t' : Nat) (b b' : List Nat) (k k' : Tr) : Bool := decide (t = t' ∧ b = b' ∧ k = k')
theorem eqI_true {t t' : Nat} {b b' : List Nat} {k k' : Tr} (h : t = t' ∧ b = b' ∧ k = k') : eqI t t' b b' k k' = true := decide_eq_true h
theorem eqI_false {t t' : Nat} {b b' : List Nat} {k k' : Tr} (h : ¬ (t = t' ∧ b = b' ∧ k = k')) : eqI t t' b b' k k' = false := decide_eq_false h
theorem retB {x y : Bool} (h : y = x) : Ending.returned (.bool x) = Ending.returned (.bool y) := by rw [h]
theorem app_heads : ∀ {A : Tr} {t1 t2 : Nat} {b1 b2 : List Nat} {k1 k2 r1 r2 : Tr}, A.app (.node t1 b1 k1 r1) = A.app (.node t2 b2 k2 r2) → t1 = t2 ∧ b1 = b2 ∧ k1 = k2
  | .nil, _, _, _, _, _, _, _, _, h => by simp only [Tr.app] at h; injection h with h1 h2 h3 h4; exact ⟨h1, h2, h3⟩
  | .node _ _ _ A, _, _, _, _, _, _, _, _, h => by simp only [Tr.app] at h; injection h with h1 h2 h3 h4; exact app_heads h4
end Go.Proofs.YtbabpmncdphnjaaGreat
namespace Go.Proofs.YtbabpmncdphnjaaGreat
open Go.RowKit
set_option linter.unusedVariables false
set_option maxRecDepth 100000
theorem enc_bad {t : Nat} {b : List Nat} {k : Tr} {x : Nat} (h : encE t b k = .error x) {w : World} {a : Option Addr} {c : Nat} {a' : Option Addr} {c' : Nat} (hin : ItIn w t a c a' c' b k) :
    Calls Tryz.prog 38 #[itV t a b.length c a' k.len c'] w fun e w' => e = .returned (.tuple #[.slice none 0 0, .int .i64 (x : Nat)]) ∧ Below w.heap.size w w' := by
  have := Encode_any w t b k a c a' c' hin
  rw [h] at this; exact this.mono fun e w' h => ⟨h.2, h.1⟩
theorem enc_ok {t : Nat} {b : List Nat} {k : Tr} {l : List Nat} (h : encE t b k = .ok l) {w : World} {a : Option Addr} {c : Nat} {a' : Option Addr} {c' : Nat} (hin : ItIn w t a c a' c' b k) :
    Calls Tryz.prog 38 #[itV t a b.length c a' k.len c'] w fun e w' => ∃ x y, e = .returned (.tuple #[.slice x l.length y, .int .i64 0]) ∧ BIn w' x l.length y l ∧ Below w.heap.size w w' := by
  have := Encode_any w t b k a c a' c' hin
  rw [h] at this; exact this.mono fun e w' h => by obtain ⟨x, y, h1, h2⟩ := h.2; exact ⟨x, y, h1, h2, h.1⟩
end Go.Proofs.YtbabpmncdphnjaaGreat
