/- A figure's groups, the project's and the document's. No condition. -/
import Derived.Test.YtbabpmncdphnjaaOg
namespace Go.Proofs.Ytbabpmncdphnjaa
open Go.RowKit
set_option linter.unusedVariables false
set_option maxRecDepth 100000
set_option linter.unusedSimpArgs false

theorem fig_rev (v : Nat) : ((v % 128) :: glo (v / 128)).reverse = fig v := by simp [fig]
theorem u8_or128 (y : Nat) (hy : y < 128) : bits .or .u8 128 (y : Int) = ((128 + y : Nat) : Int) := by
  have h : ∀ y : Fin 128, bits .or .u8 128 ((y.val : Nat) : Int) = ((128 + y.val : Nat) : Int) := by decide +kernel
  exact h ⟨y, hy⟩
theorem own_form5 {w : World} {base n : Nat} {v : Value} {xs : List Value} (h : w.ownsRow base 5 1 v n xs) (hn : 0 < n) : ∃ g c, v = .slice (some ⟨g, 0, none⟩) n c ∧ base ≤ g := by
  obtain ⟨g, c, e, h1, _⟩ := h.form hn
  exact ⟨g, c, e, h1⟩

set_option maxHeartbeats 4000000 in
theorem groups_any (w : World) (v : Nat) (hv : v ≤ 4294967295) : Calls Try.prog 61 #[.int .u64 (v : Nat)] w (Made (fig v) w) := by
  have hL1 := Lib.hid (own_lit1 w (v % 128))
  have HT8 := Lib.hid (glo_lt (v / 128) _ (Nat.le_refl _))
  have HTL := Lib.hid (glo_len 4 (v / 128) (by rw [show (128 : Nat) ^ 4 = 268435456 from rfl]; omega))
  have hc1 : (v : Int) % 128 = ((v % 128 : Nat) : Int) := by omega
  have hd1 : (v : Int) / 128 = ((v / 128 : Nat) : Int) := by omega
  have hx1 : ((v % 128 : Nat) : Int) % 256 = ((v % 128 : Nat) : Int) := by omega
  have HF := Lib.hid (fig_rev v)
  obtain ⟨d, hd⟩ : ∃ d, v % 128 = d := ⟨_, rfl⟩
  obtain ⟨h, hh⟩ : ∃ h, v / 128 = h := ⟨_, rfl⟩
  rw [hd] at hc1 hx1 hL1 HF
  rw [hh] at hd1 HT8 HTL HF
  have hd8 : d < 128 := by omega
  have hh5 : h < 33554432 := by omega
  have HD := Lib.hid hd8
  clear hd hh
  go_enter Try.func61, Try.ntmps61
  go_wp2_with fail
  clear hc1 hd1 hx1
  go_loopw [0, 3] (fun x r wr => ∃ (u : Nat) (L : List Nat), x = .int .u64 (u : Nat) ∧ wr.ownsRow w.heap.size 5 1 r L.length (bytesV L) ∧ L ++ glo u = d :: glo h ∧ L ≠ [] ∧ u < 33554432 ∧ Below w.heap.size w wr) (fun x _ _ => (intOf x).toNat)
  case atStart => exact ⟨h, [d], rfl, hL1.out, rfl, by simp, hh5, (Below.refl _ w).alloc (Nat.le_refl _) _⟩
  case round =>
    obtain ⟨u, L, rfl, hown, hinv, hne, hu, hbel⟩ := hrel
    have HO := Lib.hid hown
    have HI := Lib.hid hinv
    have HNE := Lib.hid hne
    have hLp : 0 < L.length := List.length_pos_iff.2 hne
    have hLl : L.length ≤ 5 := by
      have := congrArg List.length hinv
      have h1 := HTL.out
      simp at this; omega
    have HB := Lib.hid hbel
    obtain ⟨g, c, rfl, hg⟩ := own_form5 hown hLp
    have h8L : ∀ x ∈ L, x < 256 := by
      intro x hx
      have h1 : x ∈ d :: glo h := by rw [← hinv]; simp [hx]
      simp at h1
      rcases h1 with h1 | h1
      · exact (by have := HD.out; omega)
      · exact HT8.out x h1
    have H8 := Lib.hid h8L
    clear hown hinv hne hbel h8L
    by_cases hu0 : 0 < u
    · have hui : (0 : Int) < (u : Int) := by omega
      have hgl := Lib.hid (glo_pos (v := u) (by omega))
      have e1 : (u : Int) % 128 = ((u % 128 : Nat) : Int) := by omega
      have e2 : (u : Int) / 128 = ((u / 128 : Nat) : Int) := by omega
      have e3 : ((u % 128 : Nat) : Int) % 256 = ((u % 128 : Nat) : Int) := by omega
      obtain ⟨y, hy⟩ : ∃ y, u % 128 = y := ⟨_, rfl⟩
      obtain ⟨z, hz⟩ : ∃ z, u / 128 = z := ⟨_, rfl⟩
      rw [hy] at e1 e3 hgl
      rw [hz] at e2 hgl
      have hy8 : y < 128 := by omega
      have hzu : z < u := by omega
      have hor := u8_or128 y hy8
      obtain ⟨k, hk⟩ : ∃ k, 128 + y = k := ⟨_, rfl⟩
      have hk2 : (y : Int) + 128 = (k : Int) := by omega
      have hk8 : k < 256 := by omega
      rw [hk] at hor hgl
      have hL2 := Lib.hid (fun W : World => own_lit1 W k)
      have hB2 := Lib.hid (fun W : World => bin_one W k hk8)
      clear hy hz hk
      clear hk2
      go_wp2_with (first | (at_builtin; refine wpList_append_bytes _ rfl (.tmp 14) (.tmp 19) rfl w.heap.size (.slice (some ⟨g, 0, none⟩) L.length c) L.length L rfl (own_below HO.out (Gr.alloc wr _)) (some ⟨wr.heap.size, 0, none⟩) 1 1 [k] rfl (hB2.out wr) (by omega) (by have := HB.out.size; simp; omega) ?_; intro v4 w4 ho4 hg4))
      have hb4 : Below w.heap.size w w4 := (HB.out.alloc HB.out.size _).grown hg4 (HB.out.alloc HB.out.size _).size (fun x hx => by simp [Value.ownBlock] at hx; omega)
      go_roundw
      case rel => exact ⟨z, L ++ [k], rfl, by simpa using ho4, by rw [← HI.out, hgl.out]; simp, by simp, by omega, hb4⟩
      case measure => simp [intOf]; omega
    · have hui : ¬ (0 : Int) < (u : Int) := by omega
      obtain rfl : u = 0 := by omega
      have hI := HI.out
      rw [glo_zero] at hI
      rw [List.append_nil] at hI
      have hC := Reverse_any wr w.heap.size g L.length c L hLp (by omega) H8.out HO.out
      have HC := Lib.hid hC
      have HIE := Lib.hid (show L.reverse = fig v by rw [hI]; exact HF.out)
      clear hC hI
      go_wp2_with (go_at_call 90; refine HC.out.mono ?_; rintro e w2 ⟨rfl, ho2, hg2⟩)
      go_ret
      refine ⟨_, rfl, ?_, HB.out.grown hg2 HB.out.size (fun x hx => by injection hx with hx; omega)⟩
      rw [← HIE.out, List.length_reverse]
      exact ho2
set_option maxHeartbeats 4000000 in
theorem figure_any (w : World) (v : Nat) (hv : v ≤ 4294967295) : Calls Try.prog 62 #[.int .u64 (v : Nat)] w (Made (fig v) w) := by
  have hL1 := Lib.hid (own_lit1 w (v % 128))
  have HT8 := Lib.hid (glo_lt (v / 128) _ (Nat.le_refl _))
  have HTL := Lib.hid (glo_len 4 (v / 128) (by rw [show (128 : Nat) ^ 4 = 268435456 from rfl]; omega))
  have hc1 : (v : Int) % 128 = ((v % 128 : Nat) : Int) := by omega
  have hd1 : (v : Int) / 128 = ((v / 128 : Nat) : Int) := by omega
  have hx1 : ((v % 128 : Nat) : Int) % 256 = ((v % 128 : Nat) : Int) := by omega
  have HF := Lib.hid (fig_rev v)
  obtain ⟨d, hd⟩ : ∃ d, v % 128 = d := ⟨_, rfl⟩
  obtain ⟨h, hh⟩ : ∃ h, v / 128 = h := ⟨_, rfl⟩
  rw [hd] at hc1 hx1 hL1 HF
  rw [hh] at hd1 HT8 HTL HF
  have hd8 : d < 128 := by omega
  have hh5 : h < 33554432 := by omega
  have HD := Lib.hid hd8
  clear hd hh
  go_enter Try.func62, Try.ntmps62
  go_wp2_with fail
  clear hc1 hd1 hx1
  go_loopw [0, 3] (fun x r wr => ∃ (u : Nat) (L : List Nat), x = .int .u64 (u : Nat) ∧ wr.ownsRow w.heap.size 5 1 r L.length (bytesV L) ∧ (glo u).reverse ++ L = (d :: glo h).reverse ∧ L ≠ [] ∧ u < 33554432 ∧ Below w.heap.size w wr) (fun x _ _ => (intOf x).toNat)
  case atStart => exact ⟨h, [d], rfl, hL1.out, by simp, by simp, hh5, (Below.refl _ w).alloc (Nat.le_refl _) _⟩
  case round =>
    obtain ⟨u, L, rfl, hown, hinv, hne, hu, hbel⟩ := hrel
    have HO := Lib.hid hown
    have HI := Lib.hid hinv
    have HNE := Lib.hid hne
    have hLp : 0 < L.length := List.length_pos_iff.2 hne
    have hLl : L.length ≤ 5 := by
      have := congrArg List.length hinv
      have h1 := HTL.out
      simp at this; omega
    have HB := Lib.hid hbel
    obtain ⟨g, c, rfl, hg⟩ := own_form5 hown hLp
    have h8L : ∀ x ∈ L, x < 256 := by
      intro x hx
      have h1 : x ∈ (d :: glo h).reverse := by rw [← hinv]; simp [hx]
      simp at h1
      rcases h1 with h1 | h1
      · exact HT8.out x h1
      · exact (by have := HD.out; omega)
    have H8 := Lib.hid h8L
    obtain ⟨a', c', e, hin, _⟩ := own_in hown h8L (by omega)
    injection e with e1 e2 e3
    subst e1 e3
    have HIN := Lib.hid hin
    clear e2 hin
    clear hown hinv hne hbel h8L
    by_cases hu0 : 0 < u
    · have hui : (0 : Int) < (u : Int) := by omega
      have hgl := Lib.hid (glo_pos (v := u) (by omega))
      have e1 : (u : Int) % 128 = ((u % 128 : Nat) : Int) := by omega
      have e2 : (u : Int) / 128 = ((u / 128 : Nat) : Int) := by omega
      have e3 : ((u % 128 : Nat) : Int) % 256 = ((u % 128 : Nat) : Int) := by omega
      obtain ⟨y, hy⟩ : ∃ y, u % 128 = y := ⟨_, rfl⟩
      obtain ⟨z, hz⟩ : ∃ z, u / 128 = z := ⟨_, rfl⟩
      rw [hy] at e1 e3 hgl
      rw [hz] at e2 hgl
      have hy8 : y < 128 := by omega
      have hzu : z < u := by omega
      have hor := u8_or128 y hy8
      obtain ⟨k, hk⟩ : ∃ k, 128 + y = k := ⟨_, rfl⟩
      have hk2 : (y : Int) + 128 = (k : Int) := by omega
      have hk8 : k < 256 := by omega
      rw [hk] at hor hgl
      have hL2 := Lib.hid (fun W : World => own_lit1 W k)
      have hB2 := Lib.hid (fun W : World => bin_one W k hk8)
      clear hy hz hk
      clear hor
      go_wp2_with (first | (at_builtin; refine wpList_append_bytes _ rfl (.tmp 18) (.tmp 19) rfl w.heap.size (.slice (some ⟨wr.heap.size, 0, none⟩) 1 1) 1 [k] rfl (ownsMono (hL2.out wr) HB.out.size) (some ⟨g, 0, none⟩) L.length c L rfl (HIN.out.below (Gr.alloc wr _)) (by omega) (by have := HB.out.size; simp; omega) ?_; intro v4 w4 ho4 hg4))
      have hb4 : Below w.heap.size w w4 := (HB.out.alloc HB.out.size _).grown hg4 (HB.out.alloc HB.out.size _).size (fun x hx => by simp [Value.ownBlock] at hx; have := HB.out.size; omega)
      go_roundw
      case rel => exact ⟨z, k :: L, rfl, by simpa [Nat.add_comm 1] using ho4, by rw [← HI.out, hgl.out]; simp, by simp, by omega, hb4⟩
      case measure => simp [intOf]; omega
    · have hui : ¬ (0 : Int) < (u : Int) := by omega
      obtain rfl : u = 0 := by omega
      have hI := HI.out
      rw [glo_zero] at hI
      rw [List.reverse_nil, List.nil_append] at hI
      have HIE := Lib.hid (show L = fig v by rw [hI]; exact HF.out)
      clear hI
      go_wp2_with fail
      go_ret
      refine ⟨_, rfl, ?_, HB.out⟩
      rw [← HIE.out]
      exact HO.out
end Go.Proofs.Ytbabpmncdphnjaa
