/- OID the document's way, and lists of numbers compared. No condition. -/
import Derived.Test.YtbabpmncdphnjaaFt
import Derived.Test.YtbabpmncdphnjaaFq
import Derived.Test.YtbabpmncdphnjaaSm
namespace Go.Proofs.Ytbabpmncdphnjaa
open Go.RowKit
set_option linter.unusedVariables false
set_option maxRecDepth 100000
set_option linter.unusedSimpArgs false

theorem lo_cons (v : Nat) (l : List Nat) (x : Nat) (r : List Nat) : lo v l (x :: r) = if 4294967295 < v then none else if 128 ≤ x then lo (128 * v + x % 128) l r
    else lo 0 (if l = [] then [min ((128 * v + x % 128) / 40) 2, (128 * v + x % 128) - 40 * min ((128 * v + x % 128) / 40) 2] else l ++ [128 * v + x % 128]) r := rfl
/-- an item without bytes and parts -/
theorem zero_item (w : World) : ItIn w 0 none 0 none 0 [] .nil := ⟨by decide, bin_empty w none 0 (by simp [maxLen]) (fun _ => rfl), KIn.nil w⟩

set_option maxHeartbeats 8000000 in
theorem refOID_any (w : World) (t : Nat) (b : List Nat) (k : Tr) (a : Option Addr) (c : Nat) (a' : Option Addr) (c' : Nat) (hin : ItIn w t a c a' c' b k) (hbd : b.length ≤ 65536) :
    Calls Try.prog 28 #[itV t a b.length c a' k.len c'] w (OidIs (oidE t b k) w) := by
  have hin0 := hin
  obtain ⟨ht, hb, hk⟩ := hin
  have h0 : ∀ o, Below w.heap.size w (w.alloc o) := fun o => (Below.refl _ w).alloc (Nat.le_refl _) o
  by_cases h3 : t = 6
  · subst h3
    have HIT := Lib.hid (hin0.below (h0 (.cells #[.int .u8 6, .slice a b.length c, .slice a' k.len c'] 25)))
    have H8 := Lib.hid (show ∀ x ∈ b, x < 256 from hb.1.2.2.1)
    have HLO := Lib.hid (lo_oid (k := k) (show ∀ x ∈ b, x < 256 from hb.1.2.2.1))
    have HW := Lib.hid (Blk.new w 25 [.int .u8 6, .slice a b.length c, .slice a' k.len c'])
    have HB := Lib.hid (hb.below (h0 (.cells #[.int .u8 6, .slice a b.length c, .slice a' k.len c'] 25)))
    have H0 := Lib.hid (h0 (.cells #[.int .u8 6, .slice a b.length c, .slice a' k.len c'] 25))
    clear hb hk hin0
    go_enter Try.func28, Try.ntmps28
    generalize hbn : b.length = bn at *
    have HBN := Lib.hid hbn
    clear hbn
    go_wp2_with fail
    generalize w.alloc (.cells #[.int .u8 6, .slice a bn c, .slice a' k.len c'] 25) = W1 at *
    go_loopw [4, 5, 6, 7] (fun l v i f wr => ∃ (q u : Nat) (A : List Nat), q ≤ bn ∧ i = .int .i64 (q : Nat) ∧ v = .int .u64 (u : Nat) ∧ u < 1099511627776 ∧ wr.ownsRow W1.heap.size 39 1 l A.length (wordsV A) ∧ A.length ≤ q + 1 ∧ (∀ x ∈ A, x < 1099511627776) ∧ lo 0 [] b = lo u A (b.drop q) ∧ Below W1.heap.size W1 wr) (fun _ _ i _ _ => bn - (intOf i).toNat)
    case atStart => exact ⟨0, 0, [], Nat.zero_le _, rfl, rfl, by omega, World.ownsRow_nil _ _ _ _, by simp, by simp, rfl, Below.refl _ _⟩
    case round =>
      obtain ⟨q, u, A, hq, rfl, rfl, hu, hown, hAq, hA, hR, hbel⟩ := hrel
      have HO := Lib.hid hown
      have HA := Lib.hid hA
      have HR := Lib.hid hR
      have HBL := Lib.hid hbel
      have HAQ := Lib.hid hAq
      have HWR := Lib.hid (HW.out.below' hbel)
      have HXR := Lib.hid (H0.out.trans (hbel.mono H0.out.size))
      have k1 : wr.cell? ⟨w.heap.size, 1, none⟩ = some (.slice a bn c) := by have := HWR.out.cell 1; simpa using this
      obtain ⟨al, cl, rfl⟩ := own_slice hown
      have HRET := Lib.hid (show True from trivial)
      clear hown hA hR hbel hAq
      by_cases hqn : q < bn
      · have hqi : (q : Int) < (bn : Int) := by omega
        obtain ⟨B, o, rfl, hc⟩ := HB.out.1.2.2.2.resolve_left (by omega)
        have cq := (HBL.out.cell (World.block_lt_of_cell? W1 _ (hc q hqn))).trans (hc q hqn)
        have hx8 : b.getD q 0 < 256 := getD_lt H8.out q
        have HD := Lib.hid (drop_cons b q (by rw [HBN.out]; exact hqn))
        clear hc
        by_cases hbig : 4294967295 < u
        · have hbi : (4294967295 : Int) < (u : Int) := by omega
          have HX := Lib.hid (show oidE 6 b k = .error 127 by rw [HLO.out, HR.out, HD.out, lo_cons, if_pos hbig])
          go_wp2_with fail
          go_ret2
          exact OidIs.err HX.out HXR.out
        · have hbi : ¬ (4294967295 : Int) < (u : Int) := by omega
          obtain ⟨x, hx⟩ : ∃ x, b.getD q 0 = x := ⟨_, rfl⟩
          rw [hx] at cq hx8 HD
          obtain ⟨y, hy⟩ : ∃ y, x % 128 = y := ⟨_, rfl⟩
          have hxm : (x : Int) % 128 = (y : Int) := by omega
          obtain ⟨v, hv⟩ : ∃ v, 128 * u + y = v := ⟨_, rfl⟩
          have hwm : IntKind.u64.wrap (128 * (u : Int)) = 128 * (u : Int) := by rw [show 128 * (u : Int) = ((128 * u : Nat) : Int) by omega]; exact wrapu (by omega)
          have hwa : IntKind.u64.wrap (128 * (u : Int) + (y : Int)) = (v : Int) := by rw [show 128 * (u : Int) + (y : Int) = ((v : Nat) : Int) by omega]; exact wrapu (by omega)
          have hva : 128 * (u : Int) + (y : Int) = (v : Int) := by omega
          have hv8 : v < 1099511627776 := by omega
          have HST := Lib.hid (show lo 0 [] b = if 128 ≤ x then lo v A (b.drop (q + 1)) else lo 0 (if A = [] then [min (v / 40) 2, v - 40 * min (v / 40) 2] else A ++ [v]) (b.drop (q + 1)) by rw [HR.out, HD.out, lo_cons, if_neg hbig, hy, hv])
          have HV := Lib.hid hv
          clear hx hy hv
          by_cases hge : 128 ≤ x
          · have hgi : (128 : Int) ≤ (x : Int) := by omega
            have HN := Lib.hid (show lo 0 [] b = lo v A (b.drop (q + 1)) by rw [HST.out, if_pos hge])
            go_wp2_with fail
            go_roundw
            case rel => exact ⟨q + 1, v, A, by omega, by go_num, by first | rfl | (congr 1; done) | go_num, hv8, HO.out, by have := HAQ.out; omega, HA.out, HN.out, HBL.out⟩
            case measure => simp [intOf]; omega
          · have hgi : ¬ (128 : Int) ≤ (x : Int) := by omega
            by_cases hA0 : A = []
            · subst hA0
              obtain ⟨g, hg⟩ : ∃ g, v / 40 = g := ⟨_, rfl⟩
              have hgq : (v : Int) / 40 = (g : Int) := by omega
              obtain ⟨m1, hm1⟩ : ∃ m, min g 2 = m := ⟨_, rfl⟩
              have hmin : min (g : Int) 2 = (m1 : Int) := by omega
              obtain ⟨p1, hp1⟩ : ∃ p, 40 * m1 = p := ⟨_, rfl⟩
              obtain ⟨s1, hs1⟩ : ∃ s, v - p1 = s := ⟨_, rfl⟩
              have hw40 : IntKind.u64.wrap (40 * (m1 : Int)) = (p1 : Int) := by rw [show 40 * (m1 : Int) = ((p1 : Nat) : Int) by omega]; exact wrapu (by omega)
              have hws : IntKind.u64.wrap ((v : Int) - (p1 : Int)) = (s1 : Int) := by rw [show (v : Int) - (p1 : Int) = ((s1 : Nat) : Int) by omega]; exact wrapu (by omega)
              have HN := Lib.hid (show lo 0 [] b = lo 0 [m1, s1] (b.drop (q + 1)) by rw [HST.out, if_neg hge, if_pos rfl, hg, hm1, hp1, hs1])
              have hm8 : m1 < 1099511627776 := by omega
              have hs8 : s1 < 1099511627776 := by omega
              clear hg hm1 hp1 hs1
              go_wp2_with (first | (at_builtin; refine wpList_append_words rfl (.tmp 45) (.tmp 47) rfl W1.heap.size (.slice al 0 cl) 0 [] rfl (own_below HO.out (Gr.alloc wr _)) (some ⟨wr.heap.size, 0, none⟩) 1 1 [m1] rfl (wone wr m1 (by omega)) (by omega) (by have := HBL.out.size; simp; omega) ?_; intro v4 w4 ho4 hg4; have hb3 := HBL.out.alloc HBL.out.size (.cells #[.int .u64 (m1 : Nat)] 39); have HB4 := Lib.hid (hb3.grown hg4 hb3.size (fun x hx => (HO.out.lt x hx).1)); obtain ⟨a4, c4, rfl⟩ := own_slice ho4; have HO4 := Lib.hid ho4; clear ho4 hb3) | (at_builtin; refine wpList_append_words rfl (.tmp 53) (.tmp 55) rfl W1.heap.size (.slice a4 1 c4) 1 [m1] rfl (own_below HO4.out (Gr.alloc w4 _)) (some ⟨w4.heap.size, 0, none⟩) 1 1 [s1] rfl (wone w4 s1 (by omega)) (by omega) (by have := HB4.out.size; simp; omega) ?_; intro v5 w5 ho5 hg5))
              have hb4 := HB4.out.alloc HB4.out.size (.cells #[.int .u64 (s1 : Nat)] 39)
              have hb5 : Below W1.heap.size W1 w5 := hb4.grown hg5 hb4.size (fun x hx => (HO4.out.lt x hx).1)
              go_roundw
              case rel => exact ⟨q + 1, 0, [m1, s1], by omega, by go_num, rfl, by omega, ho5, by simp, by simp; omega, HN.out, hb5⟩
              case measure => simp [intOf]; omega
            · have hAl : A.length ≠ 0 := fun h => hA0 (List.eq_nil_of_length_eq_zero h)
              have hAi := eqzI hAl
              have HN := Lib.hid (show lo 0 [] b = lo 0 (A ++ [v]) (b.drop (q + 1)) by rw [HST.out, if_neg hge, if_neg hA0])
              obtain ⟨m, hm⟩ : ∃ m, A.length = m := ⟨_, rfl⟩
              have HM := Lib.hid hm
              rw [hm] at HO hAl hAi ⊢
              have HAQ2 := Lib.hid (show m ≤ q + 1 by have := HAQ.out; omega)
              clear hm hA0
              go_wp2_with (first | (at_builtin; refine wpList_append_words rfl (.tmp 53) (.tmp 55) rfl W1.heap.size (.slice al m cl) m A rfl (own_below HO.out (Gr.alloc wr _)) (some ⟨wr.heap.size, 0, none⟩) 1 1 [v] rfl (wone wr v (by omega)) (by have := HAQ2.out; omega) (by have := HBL.out.size; simp; omega) ?_; intro v5 w5 ho5 hg5))
              have hb4 := HBL.out.alloc HBL.out.size (.cells #[.int .u64 (v : Nat)] 39)
              have hb5 : Below W1.heap.size W1 w5 := hb4.grown hg5 hb4.size (fun x hx => (HO.out.lt x hx).1)
              go_roundw
              case rel => exact ⟨q + 1, 0, A ++ [v], by omega, by go_num, rfl, by omega, by rw [List.length_append, HM.out]; exact ho5, by have := HAQ2.out; have := HM.out; simp; omega, (fun y hy => by rcases List.mem_append.1 hy with h | h; exact HA.out y h; (simp at h; omega)), HN.out, hb5⟩
              case measure => simp [intOf]; omega
      · have hqi : ¬ (q : Int) < (bn : Int) := by omega
        have HL := Lib.hid (show lo 0 [] b = some A by rw [HR.out, List.drop_of_length_le (by rw [HBN.out]; omega)]; rfl)
        have HO2 := Lib.hid (show oidE 6 b k = if oidOk A = true ∧ figs (fl A) = b ∧ k = .nil then .ok A else .error 127 by rw [HLO.out, HL.out])
        obtain ⟨aw, cw, ew, hww, _⟩ := ownw_in HO.out (fun x hx => by have := HA.out x hx; omega) (by have := HAQ.out; omega)
        injection ew with e1 e2 e3
        subst e1 e3
        have HWI := Lib.hid hww
        clear e2 hww
        have hC := refOfOID_any wr al A.length cl A HWI.out
        cases hof : ofE A with
        | error x =>
          have hx127 : x = 127 := by unfold ofE at hof; split at hof; cases hof; injection hof with h; exact h.symm
          subst hx127
          have HX := Lib.hid (show oidE 6 b k = .error 127 by
            rw [HO2.out, if_neg]; rintro ⟨h, _⟩; unfold ofE at hof; rw [if_pos h] at hof; cases hof)
          rw [hof] at hC
          have HC := Lib.hid (hC.mono (fun e w' h => (⟨h.2, h.1⟩ : e = .returned (.tuple #[.agg #[.int .u8 0, .slice none 0 0, .slice none 0 0], .int .i64 127]) ∧ Below wr.heap.size wr w')))
          clear hC hof
          go_wp2_with (first | (go_at_call 30; (refine HC.out.mono ?_); rintro e w6 ⟨rfl, hb6⟩; have HXX := HXR; have HIT2 := Lib.hid (HIT.out.below HBL.out); have HWR := Lib.hid (HWR.out.below' hb6); have HIT2 := Lib.hid (HIT2.out.below hb6); have HXX := Lib.hid (HXX.out.trans (Below.mono hb6 HXX.out.size)); have HWI := Lib.hid (HWI.out.below hb6); have HX6 := Lib.hid (Blk.new w6 25 [.int .u8 0, .slice none 0 0, .slice none 0 0]); have HI6 := Lib.hid (zero_item w6)) | (refine wpList_store_row (P := Try.prog) rfl 25 (.tmp 8) (.tmp 60) rfl w6.heap.size #[.int .u8 0, .slice none 0 0, .slice none 0 0] rfl rfl 25 _ HX6.out info25 rfl (all_item _ _ _ _ _ _ _) ?_; have hst : Gr w6 ((w6.alloc (.cells #[.int .u8 0, .slice none 0 0, .slice none 0 0] 25)).setRow w6.heap.size #[.int .u8 0, .slice none 0 0, .slice none 0 0]) := below_setRow' (Gr.alloc w6 _) (Nat.le_refl _) _; have HX6 := Lib.hid (HX6.out.setRow [.int .u8 0, .slice none 0 0, .slice none 0 0]); have HWR := Lib.hid (HWR.out.below' hst); have HIT2 := Lib.hid (HIT2.out.below hst); have HXX := Lib.hid (HXX.out.trans (Below.mono hst HXX.out.size)); have HWI := Lib.hid (HWI.out.below hst); have HI6 := Lib.hid (HI6.out.below hst)) | (refine wpList_load_row (P := Try.prog) rfl 25 (.tmp 8) rfl w6.heap.size rfl 25 _ _ _ HX6.out Try.underlying25 rfl info25 ?_) | (refine wpList_load_row (P := Try.prog) rfl 25 (.tmp 1) rfl w.heap.size rfl 25 _ _ _ HWR.out Try.underlying25 rfl info25 ?_) | (go_at_call 11; have hs := sameI_any 1 .nil (by decide) _ 0 6 [] b k none none a a' 0 0 c c' HI6.out HIT2.out; rw [eqI_false (fun h => by omega)] at hs; rw [HBN.out] at hs; refine hs.mono ?_; rintro e w7 ⟨rfl, hb7⟩; have HWR := Lib.hid (HWR.out.below' hb7); have HIT2 := Lib.hid (HIT2.out.below hb7); have HXX := Lib.hid (HXX.out.trans (Below.mono hb7 HXX.out.size)); have HWI := Lib.hid (HWI.out.below hb7)))
          go_ret2
          exact OidIs.err HX.out HXX.out
        | ok fb =>
          have hfb : oidOk A = true ∧ fb = figs (fl A) := by unfold ofE at hof; split at hof; (rename_i h; injection hof with h2; exact ⟨h, h2.symm⟩); cases hof
          rw [hof] at hC
          have HC := Lib.hid (hC.mono (fun e w' h => (by obtain ⟨a5, c5, h1, h2⟩ := h.2; exact ⟨a5, c5, h1, h2, h.1⟩ : ∃ a5 c5, e = .returned (.tuple #[itV 6 a5 fb.length c5 none 0 0, .int .i64 0]) ∧ ItIn w' 6 a5 c5 none 0 fb .nil ∧ Below wr.heap.size wr w')))
          clear hC hof
          by_cases heq : fb = b ∧ k = .nil
          · have HX := Lib.hid (show oidE 6 b k = .ok A by rw [HO2.out, if_pos ⟨hfb.1, by rw [← hfb.2]; exact heq.1, heq.2⟩])
            have HEQ := Lib.hid (show eqI 6 6 fb b .nil k = true from eqI_true ⟨rfl, heq.1, heq.2.symm⟩)
            clear heq hfb
            go_wp2_with (first | (go_at_call 30; (refine HC.out.mono ?_); rintro e w6 ⟨a5, c5, rfl, hi6, hb6⟩; have HXX := HXR; have HIT2 := Lib.hid (HIT.out.below HBL.out); have HWR := Lib.hid (HWR.out.below' hb6); have HIT2 := Lib.hid (HIT2.out.below hb6); have HXX := Lib.hid (HXX.out.trans (Below.mono hb6 HXX.out.size)); have HWI := Lib.hid (HWI.out.below hb6); have HX6 := Lib.hid (Blk.new w6 25 [.int .u8 0, .slice none 0 0, .slice none 0 0]); have HI6 := Lib.hid hi6; clear hi6) | (refine wpList_store_row (P := Try.prog) rfl 25 (.tmp 8) (.tmp 60) rfl w6.heap.size #[.int .u8 6, .slice a5 fb.length c5, .slice none 0 0] rfl rfl 25 _ HX6.out info25 rfl (all_item _ _ _ _ _ _ _) ?_; have hst : Gr w6 ((w6.alloc (.cells #[.int .u8 0, .slice none 0 0, .slice none 0 0] 25)).setRow w6.heap.size #[.int .u8 6, .slice a5 fb.length c5, .slice none 0 0]) := below_setRow' (Gr.alloc w6 _) (Nat.le_refl _) _; have HX6 := Lib.hid (HX6.out.setRow [.int .u8 6, .slice a5 fb.length c5, .slice none 0 0]); have HWR := Lib.hid (HWR.out.below' hst); have HIT2 := Lib.hid (HIT2.out.below hst); have HXX := Lib.hid (HXX.out.trans (Below.mono hst HXX.out.size)); have HWI := Lib.hid (HWI.out.below hst); have HI6 := Lib.hid (HI6.out.below hst)) | (refine wpList_load_row (P := Try.prog) rfl 25 (.tmp 8) rfl w6.heap.size rfl 25 _ _ _ HX6.out Try.underlying25 rfl info25 ?_) | (refine wpList_load_row (P := Try.prog) rfl 25 (.tmp 1) rfl w.heap.size rfl 25 _ _ _ HWR.out Try.underlying25 rfl info25 ?_) | (go_at_call 11; have hs := sameI_any 1 .nil (by decide) _ 6 6 fb b k a5 none a a' c5 0 c c' HI6.out HIT2.out; rw [HEQ.out, HBN.out] at hs; refine hs.mono ?_; rintro e w7 ⟨rfl, hb7⟩; have HWR := Lib.hid (HWR.out.below' hb7); have HIT2 := Lib.hid (HIT2.out.below hb7); have HXX := Lib.hid (HXX.out.trans (Below.mono hb7 HXX.out.size)); have HWI := Lib.hid (HWI.out.below hb7)))
            go_ret2
            exact OidIs.good HX.out HXX.out rfl HWI.out
          · have HX := Lib.hid (show oidE 6 b k = .error 127 by rw [HO2.out, if_neg]; rintro ⟨_, h1, h2⟩; exact heq ⟨by rw [hfb.2]; exact h1, h2⟩)
            have HEQ := Lib.hid (show eqI 6 6 fb b .nil k = false from eqI_false (fun h => heq ⟨h.2.1, h.2.2.symm⟩))
            clear heq hfb
            go_wp2_with (first | (go_at_call 30; (refine HC.out.mono ?_); rintro e w6 ⟨a5, c5, rfl, hi6, hb6⟩; have HXX := HXR; have HIT2 := Lib.hid (HIT.out.below HBL.out); have HWR := Lib.hid (HWR.out.below' hb6); have HIT2 := Lib.hid (HIT2.out.below hb6); have HXX := Lib.hid (HXX.out.trans (Below.mono hb6 HXX.out.size)); have HWI := Lib.hid (HWI.out.below hb6); have HX6 := Lib.hid (Blk.new w6 25 [.int .u8 0, .slice none 0 0, .slice none 0 0]); have HI6 := Lib.hid hi6; clear hi6) | (refine wpList_store_row (P := Try.prog) rfl 25 (.tmp 8) (.tmp 60) rfl w6.heap.size #[.int .u8 6, .slice a5 fb.length c5, .slice none 0 0] rfl rfl 25 _ HX6.out info25 rfl (all_item _ _ _ _ _ _ _) ?_; have hst : Gr w6 ((w6.alloc (.cells #[.int .u8 0, .slice none 0 0, .slice none 0 0] 25)).setRow w6.heap.size #[.int .u8 6, .slice a5 fb.length c5, .slice none 0 0]) := below_setRow' (Gr.alloc w6 _) (Nat.le_refl _) _; have HX6 := Lib.hid (HX6.out.setRow [.int .u8 6, .slice a5 fb.length c5, .slice none 0 0]); have HWR := Lib.hid (HWR.out.below' hst); have HIT2 := Lib.hid (HIT2.out.below hst); have HXX := Lib.hid (HXX.out.trans (Below.mono hst HXX.out.size)); have HWI := Lib.hid (HWI.out.below hst); have HI6 := Lib.hid (HI6.out.below hst)) | (refine wpList_load_row (P := Try.prog) rfl 25 (.tmp 8) rfl w6.heap.size rfl 25 _ _ _ HX6.out Try.underlying25 rfl info25 ?_) | (refine wpList_load_row (P := Try.prog) rfl 25 (.tmp 1) rfl w.heap.size rfl 25 _ _ _ HWR.out Try.underlying25 rfl info25 ?_) | (go_at_call 11; have hs := sameI_any 1 .nil (by decide) _ 6 6 fb b k a5 none a a' c5 0 c c' HI6.out HIT2.out; rw [HEQ.out, HBN.out] at hs; refine hs.mono ?_; rintro e w7 ⟨rfl, hb7⟩; have HWR := Lib.hid (HWR.out.below' hb7); have HIT2 := Lib.hid (HIT2.out.below hb7); have HXX := Lib.hid (HXX.out.trans (Below.mono hb7 HXX.out.size)); have HWI := Lib.hid (HWI.out.below hb7)))
            go_ret2
            exact OidIs.err HX.out HXX.out
  · have HX := Lib.hid (show oidE t b k = .error 123 by simp only [oidE]; rw [if_pos h3])
    have q1 : ((t : Int) != 6) = true := by simp; omega
    clear hb hk
    go_enter Try.func28, Try.ntmps28
    go_wp2
    go_ret2
    exact OidIs.err HX.out (h0 _)
end Go.Proofs.Ytbabpmncdphnjaa
