/- Put, Read and Write. Condition: the counter of writes is below 2^62. -/
import Derived.Test.YtlgpaglkhgomiaaGs
import Derived.Laws.Cover3
namespace Go.Proofs.Ytlgpaglkhgomiaa
open Go.RowKit
set_option linter.unusedVariables false
set_option maxRecDepth 100000
set_option linter.unusedSimpArgs false
theorem FlB.gr {w w' : World} {f mb : Nat} {N cut wr : Int} {on dn : Bool} (h : FlB w f mb N on cut dn wr) (hb : Below w.heap.size w w') : FlB w' f mb N on cut dn wr := Blk.gr h hb
theorem FlB.drew {w : World} {f mb : Nat} {N cut wr : Int} {on dn : Bool} (h : FlB w f mb N on cut dn wr) : FlB w.drew f mb N on cut dn wr := h
theorem MAt.drew {w : World} {b n : Nat} {hs : Int → Bool} {c : Int → List Nat} (h : MAt w b n hs c) : MAt w.drew b n hs c := h
/-- a list of a block's bytes in new memory -/
def ReadIs (l : List Nat) (w : World) (e : Ending) (w' : World) : Prop := ∃ g, e = .returned (.tuple #[.slice (some ⟨g, 0, none⟩) 512 512, .int .i64 0]) ∧ w.heap.size ≤ g ∧ Blk w' g 70 (natsV .u8 l) ∧ Below w.heap.size w w'
theorem read_nil (n : Int) (w : World) : Calls Try.prog 23 #[.pointer none, .int .i64 n] w fun e w' => e = .returned (.tuple #[.slice none 0 0, .int .i64 1]) ∧ w = w' := by
  have H := Lib.hid (closed_nil n w)
  go_enter Try.func23, Try.ntmps23
  go_wp2_with (go_at_call 40; refine H.out.mono ?_; rintro e w' ⟨rfl, rfl⟩)
  go_ret2
  exact ⟨rfl, rfl⟩
set_option maxHeartbeats 400000 in
theorem read_no (f mb : Nat) (N cut wr n : Int) (on dn : Bool) (w : World) (h : FlB w f mb N on cut dn wr) (E : Int) (hE : clE on N n = E) (hne : (E != 0) = true) :
    Calls Try.prog 23 #[.pointer (some ⟨f, 0, none⟩), .int .i64 n] w fun e w' => e = .returned (.tuple #[.slice none 0 0, .int .i64 E]) ∧ w = w' := by
  have H := Lib.hid (closed_any f mb N cut wr n on dn w h)
  rw [hE] at H
  clear h hE
  go_enter Try.func23, Try.ntmps23
  go_wp2_with (go_at_call 40; refine H.out.mono ?_; rintro e w' ⟨rfl, rfl⟩)
  go_ret2
  exact ⟨rfl, rfl⟩
set_option maxHeartbeats 800000 in
theorem read_ok (f mb m : Nat) (N cut wr n : Int) (dn : Bool) (hs : Int → Bool) (c : Int → List Nat) (w : World) (h : FlB w f mb N true cut dn wr) (hm : MAt w mb m hs c) (h0 : 0 ≤ n) (h1 : n < N) (hN : N ≤ 1048576) :
    Calls Try.prog 23 #[.pointer (some ⟨f, 0, none⟩), .int .i64 n] w (ReadIs (c n) w) := by
  have hB : IsB (c n) := by obtain ⟨D, _, _, _, h4⟩ := hm; exact h4 n
  have hE : clE true N n = 0 := by simp [clE, h0, h1]
  have H := Lib.hid (closed_any f mb N cut wr n true dn w h)
  rw [hE] at H
  have c1 := h.c1
  have hlook := hm.run_look (x := n) ⟨by omega, by omega⟩
  have hD := def_new w (c n)
  obtain ⟨W, hW⟩ : ∃ W, (w.alloc (.cells Try.zeroCells70 70)).setRow w.heap.size (natsV .u8 (c n)).toArray = W := ⟨_, rfl⟩
  rw [hW] at hD
  have HW := Lib.hid hW
  have HD := Lib.hid hD
  have HZ := Lib.hid (zero_new w)
  clear h hE hW hD hm
  unfold ReadIs
  go_enter Try.func23, Try.ntmps23
  go_wp2_with (first | (go_at_call 40; refine H.out.mono ?_; rintro e w' ⟨rfl, rfl⟩) | (refine stB rfl 70 (.tmp 7) (.tmp 19) rfl w.heap.size rfl (natsV .u8 (c n)) rfl 70 (natsV .u8 zB) HZ.out (infoBl hB) (by rw [natsV_length, natsV_length, hB.1, zB_is.1]) (natsV_one _ _) ?_; rw [HW.out]))
  go_ret2
  exact ⟨_, rfl, Nat.le_refl _, HD.out.2.1, HD.out.1⟩
/-- which numbers are held behind a write -/
def setB (hs : Int → Bool) (x : Int) (l : List Nat) : Int → Bool := fun y => if y = x then !decide (l = zB) else hs y
/-- the flash and its map are turned, nothing else -/
def PutIs (f mb m : Nat) (N : Int) (on : Bool) (cut : Int) (dn : Bool) (wr : Int) (hs : Int → Bool) (c : Int → List Nat) (v : Value) (w : World) (e : Ending) (w' : World) : Prop :=
  e = .returned v ∧ FlB w' f mb N on cut dn wr ∧ MAt w' mb m hs c ∧ Fr w w' (fun j => j = f ∨ j = mb)
set_option maxHeartbeats 1600000 in
theorem put_any (f mb m : Nat) (N cut wr n : Int) (on dn : Bool) (hs : Int → Bool) (c : Int → List Nat) (l : List Nat) (w : World) (h : FlB w f mb N on cut dn wr) (hm : MAt w mb m hs c) (hn : I64 n) (hl : IsB l) (hmx : m < maxLen) (hw0 : 0 ≤ wr) (hw1 : wr ≤ 4611686018427387904) :
    Calls Try.prog 42 #[.pointer (some ⟨f, 0, none⟩), .int .i64 n, arrV l] w (PutIs f mb (m + 1) N on cut dn (wr + 1) (setB hs n l) (upC c n l) (.tuple #[]) w) := by
  have hne := fl_map h hm
  have c5 := h.c5
  have f5 := h.fr 5
  have hfl := Blk.lt h
  have hml := hm.lt
  obtain ⟨W0, hW0⟩ : ∃ W0, w.setCell ⟨f, 5, none⟩ (.int .i64 (wr + 1)) = W0 := ⟨_, rfl⟩
  have h0 : FlB W0 f mb N on cut dn (wr + 1) := by rw [← hW0]; exact Blk.set h 5 (.int .i64 (wr + 1))
  have hg0 : w.grownBy W0 (some f) := by rw [← hW0]; exact grown_setCell w ⟨f, 5, none⟩ _
  have hs0 : W0.heap.size = w.heap.size := by rw [← hW0]; simp
  have hm0 := hm.grown hg0 (fun e => hne (by injection e with e; exact e.symm))
  obtain ⟨W1, hW1⟩ : ∃ W1, W0.alloc (.cells (natsV .u8 l).toArray 70) = W1 := ⟨_, rfl⟩
  have hb1 : Below W0.heap.size W0 W1 := hW1 ▸ (Below.refl _ _).alloc (Nat.le_refl _) _
  have h1 : FlB W1 f mb N on cut dn (wr + 1) := Blk.below' h0 hb1
  have hm1 := hm0.gr hb1
  have hbox1 : Blk W1 w.heap.size 70 (natsV .u8 l) := by rw [← hW1, ← hs0]; exact Blk.new W0 _ _
  have HB := Lib.hid (blank_any l hl W1)
  have HF1 := Lib.hid (show Fr w W1 (fun j => j = f ∨ j = mb) from (Fr.grown (F := fun j => j = f ∨ j = mb) hg0 (fun j e _ => by injection e with e; exact .inl e.symm)).trans (Fr.below hb1 : Fr W0 W1 (fun j => j = f ∨ j = mb)) (fun j _ e => e))
  have HFL := Lib.hid h1
  have HM := Lib.hid hm1
  have HBX := Lib.hid hbox1
  obtain ⟨bl, hbl⟩ : ∃ bl, decide (l = zB) = bl := ⟨_, rfl⟩
  rw [hbl] at HB
  have HBL := Lib.hid hbl
  have HW1 := Lib.hid hW1
  have HW0 := Lib.hid hW0
  unfold NewIs at HB
  unfold PutIs
  clear hbl h hm h0 hm0 h1 hg0 hb1 hm1 hbox1 hW1 hW0 hs0
  unfold arrV
  go_enter Try.func42, Try.ntmps42
  go_upto_region 2 with (fail)
  try rw [HW0.out]
  try rw [HW1.out]
  clear c5 f5
  go_wp2_with (refine ldB rfl (.tmp 5) rfl w.heap.size 0 rfl l hl (blk_all HBX.out) ?_)
  refine HB.out.mono ?_
  rintro e w2 ⟨rfl, hb2⟩
  have HF2 := Lib.hid (show FlB w2 f mb N on cut dn (wr + 1) from Blk.below' HFL.out hb2)
  have HM2 := Lib.hid (HM.out.gr hb2)
  have HX2 := Lib.hid (HBX.out.below' hb2)
  have HR2 := Lib.hid (HF1.out.trans (Fr.below hb2 : Fr W1 w2 (fun j => j = f ∨ j = mb)) (fun j _ e => e))
  clear hb2 HB HFL HM HBX HF1 HW1 HW0
  have c1 := HF2.out.c1
  cases bl
  · go_upto_region 4 with (fail)
    refine wp_region_G (fun w_ => FlB w_ f mb N on cut dn (wr + 1) ∧ Blk w_ w.heap.size 70 (natsV .u8 l) ∧ MAt w_ mb m hs c) 6 (by kernel_rfl) ⟨HF2.out.drew, HX2.out.drew, HM2.out.drew⟩ ?_
    refine wpAnyG_take (oi := _) (v := _) (fun _ _ hS_ hb_ => ⟨hS_.1.gr hb_, hS_.2.1.gr hb_, hS_.2.2.gr hb_⟩) (i := 0) rfl (by kernel_rfl) (fun _ _ _ h => h) (pureG (by rfl) (by intro w; go_simp; first | done | with_reducible rfl)) ?_
    try simp only [Act.put, List.getElem_toArray, List.getElem_cons_succ, List.getElem_cons_zero, List.setIfInBounds_toArray, List.set_cons_zero, List.set_cons_succ]
    refine wpAnyG_take (oi := _) (v := _) (fun _ _ hS_ hb_ => ⟨hS_.1.gr hb_, hS_.2.1.gr hb_, hS_.2.2.gr hb_⟩) (i := 1) rfl (by kernel_rfl) (fun _ _ _ h => h) (pureG (by rfl) (by intro w; go_simp; first | done | with_reducible rfl)) ?_
    try simp only [Act.put, List.getElem_toArray, List.getElem_cons_succ, List.getElem_cons_zero, List.setIfInBounds_toArray, List.set_cons_zero, List.set_cons_succ]
    refine wpAnyG_take (oi := _) (v := _) (fun _ _ hS_ hb_ => ⟨hS_.1.gr hb_, hS_.2.1.gr hb_, hS_.2.2.gr hb_⟩) (i := 2) rfl (by kernel_rfl) (fun _ _ _ h => h) (pureG (by rfl) (by intro w; go_simp; first | done | with_reducible rfl)) ?_
    try simp only [Act.put, List.getElem_toArray, List.getElem_cons_succ, List.getElem_cons_zero, List.setIfInBounds_toArray, List.set_cons_zero, List.set_cons_succ]
    refine wpAnyG_take (oi := _) (v := _) (fun _ _ hS_ hb_ => ⟨hS_.1.gr hb_, hS_.2.1.gr hb_, hS_.2.2.gr hb_⟩) (i := 3) rfl (by kernel_rfl) (fun _ _ _ h => h) (worldG (by rfl) (by intro w_ hS_; have q0 := hS_.1.c1; go_simp; first | done | with_reducible rfl)) ?_
    try simp only [Act.put, List.getElem_toArray, List.getElem_cons_succ, List.getElem_cons_zero, List.setIfInBounds_toArray, List.set_cons_zero, List.set_cons_succ]
    refine wpAnyG_take (oi := _) (v := _) (fun _ _ hS_ hb_ => ⟨hS_.1.gr hb_, hS_.2.1.gr hb_, hS_.2.2.gr hb_⟩) (i := 4) rfl (by kernel_rfl) (fun _ _ _ h => h) (pureG (by rfl) (by intro w; go_simp; first | done | with_reducible rfl)) ?_
    try simp only [Act.put, List.getElem_toArray, List.getElem_cons_succ, List.getElem_cons_zero, List.setIfInBounds_toArray, List.set_cons_zero, List.set_cons_succ]
    refine wpAnyG_take (oi := _) (v := _) (fun _ _ hS_ hb_ => ⟨hS_.1.gr hb_, hS_.2.1.gr hb_, hS_.2.2.gr hb_⟩) (i := 5) rfl (by kernel_rfl) (fun _ _ _ h => h) (loadG (by rfl) 70 (.tmp 5) rfl w.heap.size 0 rfl (natsV .u8 l) _ (fun w_ hS_ => blk_all hS_.2.1) Try.underlying70 rfl (infoBl hl)) ?_
    try simp only [Act.put, List.getElem_toArray, List.getElem_cons_succ, List.getElem_cons_zero, List.setIfInBounds_toArray, List.set_cons_zero, List.set_cons_succ]
    refine wpAnyG_putB (i := 6) (by kernel_rfl) (by kernel_rfl) rfl rfl (by rfl) (.tmp 23) (.tmp 24) (.tmp 25) rfl mb m hs c n l rfl rfl rfl (fun w_ hS_ => hS_.2.2) hmx hn hl (fun W W2 hS_ hW hg2 hM2 => ?_)
    try simp only [Act.put, List.getElem_toArray, List.getElem_cons_succ, List.getElem_cons_zero, List.setIfInBounds_toArray, List.set_cons_zero, List.set_cons_succ]
    have HR3 := Lib.hid ((HR2.out.trans (Fr.below ((Gr.drew w2).trans hW) : Fr w2 W (fun j => j = f ∨ j = mb)) (fun j _ e => e)).trans (Fr.grown (F := fun j => j = f ∨ j = mb) hg2 (fun j e _ => by injection e with e; exact .inr e.symm)) (fun j _ e => e))
    have HF3 := Lib.hid (show FlB W2 f mb N on cut dn (wr + 1) from Blk.grown hS_.1 hg2 (fun e => hne (by injection e with e)))
    have HM3 := Lib.hid hM2
    clear hS_ hW hg2 hM2 c1
    go_wp2
    refine ⟨rfl, .tuple #[], ?_, rfl, HF3.out, ?_, HR3.out⟩
    · simp [results, Try.results42]
    · have hz : ¬ l = zB := of_decide_eq_false HBL.out
      refine HM3.out.congr (fun x hx => ?_) (fun _ _ => rfl) (by obtain ⟨D, _, _, _, h4⟩ := HM3.out; exact h4)
      unfold upB setB; by_cases e : x = n <;> simp [e, hz]
  · go_wp2_with (at_delete; refine wpList_outB rfl (.tmp 18) (.tmp 19) rfl mb m hs c rfl HM2.out n hn rfl ?_; intro w3 hM3 hg3)
    have HR3 := Lib.hid (HR2.out.trans (Fr.grown (F := fun j => j = f ∨ j = mb) hg3 (fun j e _ => by injection e with e; exact .inr e.symm)) (fun j _ e => e))
    have HF3 := Lib.hid (show FlB w3 f mb N on cut dn (wr + 1) from Blk.grown HF2.out hg3 (fun e => hne (by injection e with e)))
    have HM3 := Lib.hid hM3
    clear hg3 hM3 c1
    go_wp2
    refine ⟨rfl, .tuple #[], ?_, rfl, HF3.out, ?_, HR3.out⟩
    · simp [results, Try.results42]
    · have hz : l = zB := of_decide_eq_true HBL.out
      refine (HM3.out.mono (Nat.le_succ m)).congr (fun x hx => ?_) (fun x hx => by unfold upC; by_cases e : x = n <;> simp [e, hz]) (by obtain ⟨D, _, _, _, h4⟩ := HM3.out; rw [hz]; exact h4)
      unfold outB setB; by_cases e : x = n <;> simp [e, hz]
end Go.Proofs.Ytlgpaglkhgomiaa
