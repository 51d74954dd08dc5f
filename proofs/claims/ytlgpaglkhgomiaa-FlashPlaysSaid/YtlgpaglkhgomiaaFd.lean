/- What is blank is taken out of a map. No condition. -/
import Derived.Test.YtlgpaglkhgomiaaBk
import Derived.Test.YtlgpaglkhgomiaaG0
namespace Go.Proofs.Ytlgpaglkhgomiaa
open Go.RowKit
set_option linter.unusedVariables false
set_option maxRecDepth 100000
set_option linter.unusedSimpArgs false
theorem zcN : (Try.zeroCells70) = (natsV .u8 zB).toArray := by have := zc; unfold arrV at this; injection this
theorem zero_new (w : World) : Blk (w.alloc (.cells Try.zeroCells70 70)) w.heap.size 70 (natsV .u8 zB) := by rw [zcN]; exact Blk.new w _ _
/-- a variable of the call's own holds a block -/
theorem def_new (w : World) (l : List Nat) : Below w.heap.size w ((w.alloc (.cells Try.zeroCells70 70)).setRow w.heap.size (natsV .u8 l).toArray) ∧ Blk ((w.alloc (.cells Try.zeroCells70 70)).setRow w.heap.size (natsV .u8 l).toArray) w.heap.size 70 (natsV .u8 l) ∧ ((w.alloc (.cells Try.zeroCells70 70)).setRow w.heap.size (natsV .u8 l).toArray).heap.size = w.heap.size + 1 :=
  ⟨below_setRow' ((Below.refl _ _).alloc (Nat.le_refl _) _) (Nat.le_refl _) _, (zero_new w).setRow _, by simp⟩
/-- what is left of a map whose blank blocks go -/
def keepB (hs : Int → Bool) (c : Int → List Nat) (left : Int → Bool) : Int → Bool := fun x => hs x && (left x || !decide (c x = zB))
/-- the map is turned, nothing else -/
def TurnM (mb n : Nat) (hs : Int → Bool) (c : Int → List Nat) (w : World) (e : Ending) (w' : World) : Prop :=
  e = .returned (.tuple #[]) ∧ MAt w' mb n hs c ∧ w.grownBy w' (some mb)
set_option maxHeartbeats 1600000 in
theorem delfunc_any (mb n : Nat) (hs : Int → Bool) (c : Int → List Nat) (w : World) (h : MAt w mb n hs c) :
    Calls Try.prog 28 #[.map (some mb), .func (.func 29) #[] #[]] w (TurnM mb n (keepB hs c (fun _ => false)) c w) := by
  have hmlt := h.lt
  have H := Lib.hid h
  clear h
  unfold TurnM
  go_enter Try.func28, Try.ntmps28
  go_wp2_with (at_range; refine wpList_rangeB _ rfl (.tmp 6) rfl mb n hs c rfl H.out ?_; intro w0 cnt0 hrg0 hg0 hs0)
  go_frame
  have HR0 := Lib.hid hrg0
  have HG0 := Lib.hid hg0
  clear hrg0 hg0 hs0
  go_loopw [4, 5, 16] (fun _ _ _ wr => ∃ (hs' left : Int → Bool) (cnt : Nat), MRg wr mb w.heap.size n hs' c left cnt ∧ (∀ x, I64 x → hs' x = keepB hs c left x) ∧ w.grownBy wr (some mb)) (fun _ _ _ wr => wr.rangeLeft mb w.heap.size)
  case atStart => exact ⟨hs, hs, cnt0, HR0.out, fun x _ => by unfold keepB; cases hs x <;> rfl, (HG0.out).but _⟩
  case round =>
    obtain ⟨hs', left, cnt, hrg, hk, hgw⟩ := hrel
    have HRG := Lib.hid hrg
    have HK := Lib.hid hk
    have HGW := Lib.hid hgw
    clear hrg hk hgw HR0 HG0
    go_wp2_with (at_next; refine wpList_nextB _ rfl (.tmp 7) rfl mb w.heap.size n hs' c left cnt rfl HRG.out ?_ ?_)
    · intro hl0
      have HL := Lib.hid hl0
      clear hl0
      go_wp2
      refine ⟨rfl, .tuple #[], ?_, rfl, ?_, ?_⟩
      · simp [results, Try.results28]
      · exact HRG.out.owns.congr (fun x hx => by rw [HK.out x hx]; unfold keepB; rw [HL.out x hx]) (fun _ _ => rfl) (by obtain ⟨D, h1, h2, h3, h4⟩ := H.out; exact h4)
      · exact HGW.out
    · intro x w1 cnt1 hx hlx hhx hrg1 hlt hg1 hs1 hen
      have hD := def_new w1 (c x)
      have hB : IsB (c x) := by obtain ⟨D, h1, h2, h3, h4⟩ := H.out; exact h4 x
      obtain ⟨W, hW⟩ : ∃ W, (w1.alloc (.cells Try.zeroCells70 70)).setRow w1.heap.size (natsV .u8 (c x)).toArray = W := ⟨_, rfl⟩
      rw [hW] at hD
      have HW := Lib.hid hW
      have HD := Lib.hid hD
      have HR1 := Lib.hid hrg1
      have HG1 := Lib.hid (show w.grownBy w1 (some mb) from HGW.out.andThen hg1 (fun j hj => by cases hj; exact Or.inl (Nat.le_refl _)))
      have HZ := Lib.hid (zero_new w1)
      have HC := Lib.hid (new1_any x (c x) hB W)
      obtain ⟨bl, hbl⟩ : ∃ bl, decide (c x = zB) = bl := ⟨_, rfl⟩
      rw [hbl] at HC
      have HBL := Lib.hid hbl
      have HHX := Lib.hid hhx
      have HLX := Lib.hid hlx
      have HLT := Lib.hid hlt
      clear hbl hD hW hrg1 hg1 hs1 hhx hlx hlt
      unfold NewIs at HC
      go_wp2_with (first | (refine stB rfl 70 (.tmp 5) (.tmp 12) rfl w1.heap.size rfl (natsV .u8 (c x)) rfl 70 (natsV .u8 zB) HZ.out (infoBl hB) (by rw [natsV_length, natsV_length, hB.1, zB_is.1]) (natsV_one _ _) ?_; rw [HW.out]) | (refine ldB rfl (.tmp 5) rfl w1.heap.size 0 rfl (c x) hB (blk_all HD.out.2.1) ?_))
      refine HC.out.mono ?_
      rintro e w2 ⟨rfl, hb2⟩
      have hb12 : Below w1.heap.size w1 w2 := HD.out.1.trans (hb2.mono HD.out.1.size)
      have HR2 := Lib.hid (HR1.out.below hb12)
      have HG2 := Lib.hid (HG1.out.andThen (grown_below hb12 none) (fun j hj => by cases hj))
      clear HC HZ HD HW hb2 hb12
      cases bl
      · go_wp2
        go_roundw
        case rel => exact ⟨hs', strike left x, cnt1, HR2.out, fun y hy => by
          rw [HK.out y hy]; unfold keepB strike
          by_cases e : y = x
          · subst e; simp [HBL.out, HLX.out]
          · simp [e], HG2.out⟩
        case measure => rw [HR2.out.left_eq, HRG.out.left_eq]; exact HLT.out
      · go_wp2_with (at_delete; refine wpList_delB _ rfl (.tmp 17) (.tmp 18) rfl mb w.heap.size n hs' c (strike left x) cnt1 rfl HR2.out x hx rfl ?_; intro w3 cnt3 hrg3 hle hg3)
        go_frame
        have HR3 := Lib.hid hrg3
        have HG3 := Lib.hid (HG2.out.andThen hg3 (fun j hj => Or.inr hj))
        clear hrg3 hg3
        go_wp2
        go_roundw
        case rel =>
          have hcx : c x = zB := of_decide_eq_true HBL.out
          refine ⟨outB hs' x, strike (strike left x) x, cnt3, ?_, fun y hy => ?_, HG3.out⟩
          · have q := HR3.out
            have e1 : upC c x zB = c := by funext y; unfold upC; by_cases e : y = x <;> simp [e, hcx]
            rw [e1] at q
            exact q
          · unfold outB
            by_cases e : y = x
            · subst e; rw [if_pos rfl]; unfold keepB strike; simp [hcx]
            · rw [if_neg e, HK.out y hy]; unfold keepB strike; simp [e]
        case measure => rw [HR3.out.left_eq, HRG.out.left_eq]; have := HLT.out; omega
end Go.Proofs.Ytlgpaglkhgomiaa
