/- The law that any bytes are read as the document says. No condition. -/
import Derived.Test.YtbabpmncdphnjaaSpl
import Derived.Test.YtbabpmncdphnjaaRz
import Derived.Test.YtbabpmncdphnjaaAw
namespace Go.Proofs.Ytbabpmncdphnjaa
open Go.RowKit
set_option linter.unusedVariables false
set_option maxRecDepth 100000
set_option linter.unusedSimpArgs false

/-- both sides read the same item, or refuse by the same error -/
theorem dec_both (l : List Nat) : ∃ (t : Nat) (bb : List Nat) (k : Tr) (er : Nat), k.sz ≤ k.sz ∧
    (∀ (w : World) (a : Option Addr) (n c : Nat), BIn w a n c l → Calls Try.prog 9 #[.slice a n c] w fun e w' => ∃ a1 c1 a2 c2, e = .returned (.tuple #[itV t a1 bb.length c1 a2 k.len c2, .int .i64 (er : Nat)]) ∧ ItIn w' t a1 c1 a2 c2 bb k ∧ Below w.heap.size w w') ∧
    (∀ (w : World) (a : Option Addr) (n c : Nat), BIn w a n c l → Calls Try.prog 10 #[.slice a n c] w fun e w' => ∃ a1 c1 a2 c2 L, e = .returned (.tuple #[itV t a1 bb.length c1 a2 k.len c2, .int .i64 (er : Nat)]) ∧
      OwnV w' w.heap.size (.node t bb k .nil) [.int .u8 (t : Nat), .slice a1 bb.length c1, .slice a2 k.len c2] L ∧ L.Nodup ∧ ItIn w' t a1 c1 a2 c2 bb k ∧ Below w.heap.size w w') := by
  cases hE : decE l with
  | error x =>
    refine ⟨0, [], .nil, x, Nat.le_refl _, fun w a n c hin => ?_, fun w a n c hin => ?_⟩
    · have := refDecode_any l w a n c hin
      rw [hE] at this
      exact this.mono fun e w' h => ⟨none, 0, none, 0, h.2, ⟨by omega, bin_empty w' none 0 (by simp [maxLen]) (fun _ => rfl), KIn.nil w'⟩, h.1⟩
    · have := Decode_any l w a n c hin
      rw [hE] at this
      exact this.mono fun e w' h => ⟨none, 0, none, 0, [], h.2, OwnV.mk (by omega) (by simp) (by simp) (by simp [Tr.len]) (World.ownsRow_nil _ _ _ _) (World.ownsRow_nil _ _ _ _) ⟨rfl, rfl⟩, List.nodup_nil, ⟨by omega, bin_empty w' none 0 (by simp [maxLen]) (fun _ => rfl), KIn.nil w'⟩, h.1⟩
  | ok q =>
    obtain ⟨t, bb, k⟩ := q
    refine ⟨t, bb, k, 0, Nat.le_refl _, fun w a n c hin => ?_, fun w a n c hin => ?_⟩
    · have := refDecode_any l w a n c hin
      rw [hE] at this
      refine this.mono fun e w' h => ?_
      obtain ⟨a1, c1, a2, c2, h1, h2⟩ := h.2
      exact ⟨a1, c1, a2, c2, h1, h2, h.1⟩
    · have := Decode_any l w a n c hin
      rw [hE] at this
      refine this.mono fun e w' h => ?_
      obtain ⟨v1, v2, L, rfl, hV, hN⟩ := h.2
      obtain ⟨a1, c1, a2, c2, _, rfl, rfl, hit⟩ := hV.item
      exact ⟨a1, c1, a2, c2, L, rfl, hV, hN, hit, h.1⟩

theorem u_in {w : World} {base gu n cu : Nat} {l : List Nat} (h : w.ownsRow base 5 1 (.slice (some ⟨gu, 0, none⟩) (n + 1) cu) (n + 1) (bytesV (l ++ [170]))) (hl : l.length = n) (hlt : ∀ x ∈ l ++ [170], x < 256) (hn : n ≤ 140737488351232) : BIn w (some ⟨gu, 0, none⟩) n cu l := by
  obtain ⟨a, c, e, hb, _⟩ := own_in h hlt (by omega)
  injection e with e1 _ e3
  subst e1 e3
  have := bin_headZ hb (f := n) (by omega)
  rwa [List.take_left' hl] at this
theorem u_end {w : World} {base gu n cu : Nat} {l : List Nat} (h : w.ownsRow base 5 1 (.slice (some ⟨gu, 0, none⟩) (n + 1) cu) (n + 1) (bytesV (l ++ [170]))) (hl : l.length = n) : w.cell? ⟨gu, n, none⟩ = some (.int .u8 170) := by
  rw [h.cellAt n (by omega)]
  simp [bytesV, ← hl]
set_option maxRecDepth 100000 in
set_option maxHeartbeats 8000000 in
theorem lawReads (w : World) (l : List Nat) (a : Option Addr) (n c : Nat) (hin : BIn w a n c l) (hn : n ≤ 140737488351232) :
    Calls Try.prog 3 #[.slice a n c] w fun e w' => e = .returned (.bool true) ∧ Below w.heap.size w w' := by
  have hl : l.length = n := hin.1.1
  obtain ⟨t, bb, k, er, _, hD1, hD2⟩ := dec_both l
  have HIN := Lib.hid hin
  have HL := Lib.hid hl
  have HN := Lib.hid hn
  have HD1 := Lib.hid hD1
  have HD2 := Lib.hid hD2
  have hlt : ∀ x ∈ l ++ [170], x < 256 := by intro x hx; rcases List.mem_append.1 hx with h | h; exact hin.1.2.2.1 x h; simp at h; omega
  have HLT := Lib.hid hlt
  obtain ⟨i5, hi5, hz5, hs5, hy5⟩ := info_parts info5
  clear hin hl hD1 hD2 hlt
  go_enter Try.func3, Try.ntmps3
  go_wp2_with (first | (at_builtin; refine wpList_append_bytes _ rfl (.tmp 11) (.tmp 12) rfl w.heap.size (.slice (some ⟨w.heap.size, 0, none⟩) 0 0) 0 [] rfl (zero_row w) a n c l rfl (HIN.out.below ((Below.refl _ _).alloc (Nat.le_refl _) _)) (by have := HN.out; omega) (by simp) ?_; intro v1 w5 ho1 hg1; rw [Nat.zero_add, List.nil_append] at ho1; obtain ⟨a5, c5, rfl⟩ := own_slice ho1; have HB5 := Lib.hid ((((Below.refl _ _).alloc (Nat.le_refl _) _ : Below w.heap.size w _).grown hg1 (by simp) (by intro x hx; injection hx with hx; simp at hx; omega))); have HO1 := Lib.hid ho1; clear ho1 hg1) | (at_builtin; refine wpList_append_lies _ rfl (.tmp 13) (.tmp 14) 22 rfl w.heap.size 5 i5 _ 1 1 Try.underlying22 hi5 hz5 hs5 hy5 rfl (by decide) (.slice a5 n c5) n (bytesV l) rfl (own_below HO1.out ((Below.refl _ _).alloc (Nat.le_refl _) _)) ⟨w5.heap.size, 0, none⟩ 1 1 [.int .u8 170] rfl rfl (World.news_of_block (heap_alloc_new w5 _)) (by intro u hu; simp at hu; subst hu; rfl) (by decide) (by have := HN.out; simp only [maxLen]; omega) (by have := HN.out; omega) (by have := HB5.out.size; simp; omega) _ rfl ?_; intro gu cu w6 ho6 hg6 hat6 hlt6; have HB6 := Lib.hid ((HB5.out.alloc HB5.out.size (.cells #[.int .u8 170] 5)).grown hg6 (by have := HB5.out.size; simp; omega) (fun x hx => (own_ob_lt HO1.out x (by rw [ob, hx]; simp)).1)); have HO6 := Lib.hid (show w6.ownsRow w.heap.size 5 1 (.slice (some ⟨gu, 0, none⟩) (n + 1) cu) (n + 1) (bytesV (l ++ [170])) by simpa [bytesV] using ho6); have hcu : n + 1 ≤ cu := (by obtain ⟨_, _, _, _, h, _⟩ := own_cur ho6; exact h); have hcu2 : cu ≤ 9223372036854775807 := (by obtain ⟨_, _, _, _, _, h, _⟩ := own_cur ho6; simpa [maxLen] using h); clear ho6 hg6 hat6) | (go_at_call 9; (with_reducible refine (HD1.out _ _ _ _ (HIN.out.below HB6.out)).mono ?_); rintro e w7 ⟨a1, c1, a2, c2, rfl, hit7, hb7⟩; have HI7 := Lib.hid hit7; have HB7 := Lib.hid (HB6.out.trans (hb7.mono HB6.out.size)); have HO7 := Lib.hid (own_below HO6.out hb7); have DX := Lib.hid (Blk.new w7 25 [.int .u8 0, .slice none 0 0, .slice none 0 0]); clear hit7 hb7) | (refine wpList_store_row (P := Try.prog) rfl 25 (.tmp 4) (.tmp 22) rfl w7.heap.size #[.int .u8 (t : Nat), .slice a1 bb.length c1, .slice a2 k.len c2] rfl rfl 25 _ DX.out info25 rfl (all_item _ _ _ _ _ _ _) ?_))
  have hb8 : Gr w7 ((w7.alloc (.cells #[.int .u8 0, .slice none 0 0, .slice none 0 0] 25)).setRow w7.heap.size #[.int .u8 (t : Nat), .slice a1 bb.length c1, .slice a2 k.len c2]) := below_setRow' (Gr.alloc w7 _) (Nat.le_refl _) _
  have HW8 := Lib.hid (DX.out.setRow [.int .u8 (t : Nat), .slice a1 bb.length c1, .slice a2 k.len c2])
  have HI8 := Lib.hid (HI7.out.below hb8)
  have HO8 := Lib.hid (own_below HO7.out hb8)
  have HB8 := Lib.hid (HB7.out.trans (Below.mono hb8 HB7.out.size))
  have hg8 : w7.heap.size < ((w7.alloc (.cells #[.int .u8 0, .slice none 0 0, .slice none 0 0] 25)).setRow w7.heap.size #[.int .u8 (t : Nat), .slice a1 bb.length c1, .slice a2 k.len c2]).heap.size := HW8.out.lt
  clear hb8 hcu2
  generalize (w7.alloc (.cells #[.int .u8 0, .slice none 0 0, .slice none 0 0] 25)).setRow w7.heap.size #[.int .u8 (t : Nat), .slice a1 bb.length c1, .slice a2 k.len c2] = W8 at *
  have HCU := Lib.hid hcu
  clear hcu
  go_loopw [6] (fun i wr => ∃ j : Nat, i = .int .i64 (j : Nat) ∧ j ≤ 2 ∧ Below W8.heap.size W8 wr) (fun i _ => 2 - (intOf i).toNat)
  case atStart => exact ⟨0, rfl, by omega, Below.refl _ _⟩
  case round =>
    obtain ⟨j, rfl, hj, hbel⟩ := hrel
    have HBE := Lib.hid hbel
    have HUr := Lib.hid (u_in (own_below HO8.out hbel) HL.out HLT.out HN.out)
    have HWr := Lib.hid (HW8.out.below' hbel)
    have HIr := Lib.hid (HI8.out.below hbel)
    clear hbel
    by_cases hj2 : j < 2
    · have hji : (j : Int) < 2 := by omega
      go_wp2_with (first | (go_at_call 10; (with_reducible refine (HD2.out _ _ _ _ HUr.out).mono ?_); rintro e w2 ⟨b1, d1, b2, d2, L, rfl, hV, hNd, hit, hb2⟩; have HV := Lib.hid hV; have HND := Lib.hid hNd; have HIT := Lib.hid hit; have HB2 := Lib.hid hb2; have DY := Lib.hid (Blk.new w2 25 [.int .u8 0, .slice none 0 0, .slice none 0 0]); clear hV hNd hit hb2) | (refine wpList_store_row (P := Try.prog) rfl 25 (.tmp 7) (.tmp 31) rfl w2.heap.size #[.int .u8 (t : Nat), .slice b1 bb.length d1, .slice b2 k.len d2] rfl rfl 25 _ DY.out info25 rfl (all_item _ _ _ _ _ _ _) ?_; have hb4 : Gr w2 ((w2.alloc (.cells #[.int .u8 0, .slice none 0 0, .slice none 0 0] 25)).setRow w2.heap.size #[.int .u8 (t : Nat), .slice b1 bb.length d1, .slice b2 k.len d2]) := below_setRow' (Gr.alloc w2 _) (Nat.le_refl _) _; have DZ := Lib.hid (DY.out.setRow [.int .u8 (t : Nat), .slice b1 bb.length d1, .slice b2 k.len d2]); have HV4 := Lib.hid (HV.out.below hb4); have HIT4 := Lib.hid (HIT.out.below hb4); have HW4 := Lib.hid ((HWr.out.below' HB2.out).below' hb4); have HI4 := Lib.hid ((HIr.out.below HB2.out).below hb4); have HB4 := Lib.hid (HBE.out.trans ((HB2.out.trans (Below.mono hb4 HB2.out.size)).mono HBE.out.size)); clear hb4; generalize (w2.alloc (.cells #[.int .u8 0, .slice none 0 0, .slice none 0 0] 25)).setRow w2.heap.size #[.int .u8 (t : Nat), .slice b1 bb.length d1, .slice b2 k.len d2] = w4 at *) | (refine wpList_load_row (P := Try.prog) rfl 25 (.tmp 7) rfl w2.heap.size rfl 25 _ _ _ DZ.out Try.underlying25 rfl info25 ?_) | (refine wpList_load_row (P := Try.prog) rfl 25 (.tmp 4) rfl w7.heap.size rfl 25 _ _ _ HW4.out Try.underlying25 rfl info25 ?_) | (go_at_call 11; (with_reducible refine (sameI_self HIT4.out HI4.out).mono ?_); rintro e w5 ⟨rfl, hb5⟩; have HV5 := Lib.hid (HV4.out.below hb5); have DZ5 := Lib.hid (DZ.out.below' hb5); have HB5 := Lib.hid (HB4.out.trans (hb5.mono HB4.out.size)); have hs45 := hb5.size; clear hb5) | (go_at_call 12; (with_reducible refine (spoil_any (k.sz + 1) k (by omega) w5 w2.heap.size 0 _ wr.heap.size t bb _ _ L DZ5.out (by simp) rfl rfl rfl (by have := HB2.out.size; have := DZ5.out.lt; omega) HV5.out HND.out (fun h => by have := (HV.out.lt _ h).2; omega)).mono ?_); rintro e w6 ⟨rfl, cs6, _, _, _, hf6⟩; have HF6 := Lib.hid hf6; clear hf6))
      go_roundw
      case rel =>
        have hz1 := HBE.out.size
        have hz2 := HB2.out.size
        have hlv := HV.out.lt
        exact ⟨j + 1, by go_num, by omega, HB5.out.trans (HF6.out.below (B := W8.heap.size) (fun x hx => by rcases hx with rfl | hx; omega; have := (hlv x hx).1; omega) HB5.out.size)⟩
      case measure => simp [intOf]; omega
    · have hji : ¬ (j : Int) < 2 := by omega
      have HOr := Lib.hid (own_below HO8.out HBE.out)
      have HBr := Lib.hid (HB8.out.trans (HBE.out.mono HB8.out.size))
      have hb1 : (n : Int) + 1 ≤ (cu : Int) := by have := HCU.out; omega
      have hb2 : ((n : Int) + 1).toNat = n + 1 := by omega
      go_wp2_with (first | (go_at_call 13; (with_reducible refine (sameB_any _ _ _ _ _ _ _ _ _ HUr.out (HIN.out.below HBr.out)).mono ?_); rintro e w9 ⟨rfl, hb9⟩; rw [decide_eq_true (rfl : l = l)]; have HO9 := Lib.hid (own_below HOr.out hb9); have HB9 := Lib.hid (HBr.out.trans (hb9.mono HBr.out.size)); clear hb9) | (go_at_call 14; (with_reducible refine (alive_any _).mono ?_); rintro e wa ⟨rfl, hba⟩; have HBa := Lib.hid (HB9.out.trans (hba.mono HB9.out.size)); have cu0 := u_end (own_below HO9.out hba) HL.out; clear hba))
      go_ret
      exact ⟨rfl, HBa.out⟩
end Go.Proofs.Ytbabpmncdphnjaa
