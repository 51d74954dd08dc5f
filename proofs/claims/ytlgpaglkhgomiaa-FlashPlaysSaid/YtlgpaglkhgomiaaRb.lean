/- The document's Holds and Read. No condition. -/
import Derived.Test.YtlgpaglkhgomiaaRa
import Derived.Test.YtlgpaglkhgomiaaCw
import Derived.Deep.CutRange
namespace Go.Proofs.Ytlgpaglkhgomiaa
open Go.RowKit
set_option linter.unusedVariables false
set_option maxRecDepth 100000
set_option linter.unusedSimpArgs false
/-- so many bytes in a row of the call's own -/
def HoldIs (l : List Nat) (w : World) (e : Ending) (w' : World) : Prop := ∃ a c, e = .returned (.slice a 512 c) ∧ w'.ownsRow w.heap.size 5 1 (.slice a 512 c) 512 (bytesV l) ∧ Below w.heap.size w w'
theorem zeros_any (w : World) : Calls Try.prog 49 #[] w (HoldIs zB w) := by
  have hmk : ∀ w : World, (Instr.makeSlice 41 (.int .i64 512) (.int .i64 512)).run Try.prog w = .ok (.slice (some ⟨w.heap.size, 0, none⟩) 512 512) (w.alloc (.cells (natsV .u8 zB).toArray 5)) := fun w => mk_u8 512 (by omega) w
  have HO := Lib.hid (show (w.alloc (.cells (natsV .u8 zB).toArray 5)).ownsRow w.heap.size 5 1 (.slice (some ⟨w.heap.size, 0, none⟩) 512 512) 512 (bytesV zB) from
    ⟨by simp [bytesV, zB_is.1], .inr ⟨w.heap.size, 512, (natsV .u8 zB).toArray, rfl, Nat.le_refl _, heap_alloc_new w _, Nat.le_refl _, by unfold maxLen; omega, by simp [natsV, zB_is.1], by
      rw [List.take_of_length_le (by simp [natsV, zB_is.1])]; rfl⟩⟩)
  unfold HoldIs
  go_enter Try.func49, Try.ntmps49
  go_wp2
  go_ret
  exact ⟨_, _, rfl, HO.out, (Below.refl _ _).alloc (Nat.le_refl _) _⟩
theorem cOf_at {bs : List BlkR} (h : bs.Pairwise (fun x y => x.N ≠ y.N)) {x : BlkR} (hx : x ∈ bs) : cOf bs x.N = x.l := by
  induction bs with
  | nil => cases hx
  | cons y r ih =>
    unfold cOf
    obtain ⟨h1, h2⟩ := List.pairwise_cons.1 h
    rcases List.mem_cons.1 hx with rfl | hx
    · simp
    · have := h1 x hx
      rw [List.find?_cons_of_neg (by simpa using this)]
      exact ih h2 hx
theorem cOf_none {bs : List BlkR} {n : Int} (h : ∀ x ∈ bs, x.N ≠ n) : cOf bs n = zB := by
  unfold cOf
  rw [List.find?_eq_none.2 (fun x hx => by simpa using h x hx)]
set_option maxHeartbeats 1600000 in
theorem holds_any (base r : Nat) (N left many n : Int) (off dn : Bool) (bs : List BlkR) (w : World) (h : RfAt w base r N off left dn many bs) :
    Calls Try.prog 45 #[.pointer (some ⟨r, 0, none⟩), .int .i64 n] w (HoldIs (cOf bs n) w) := by
  obtain ⟨aL, cL, _, c1, _, _, _, _, hin, hmx⟩ := h.cells
  unfold maxLen at hmx
  have HIN := Lib.hid hin
  have HP := Lib.hid h.2.2
  have H5 := Lib.hid h.2.1
  have HZ := Lib.hid (zeros_any w)
  have hlow : (0 : Int) ≤ (bs.length : Int) := by omega
  have hrl := h.lt
  clear h hin
  unfold HoldIs at *
  go_enter Try.func45, Try.ntmps45
  go_wp2
  go_loop [5] (fun v5 => ∃ k : Nat, v5 = .int .i64 ((k : Int) - 1) ∧ k ≤ bs.length ∧ ∀ j x, k ≤ j → bs[j]? = some x → x.N ≠ n) (fun v5 => (intOf v5 + 1).toNat)
  case atStart => exact ⟨bs.length, rfl, Nat.le_refl _, fun j x hj hx => by have := (List.getElem?_eq_some_iff.1 hx).1; omega⟩
  case round =>
    obtain ⟨k, rfl, hk, hno⟩ := hrel
    have HNO := Lib.hid hno
    clear hno
    cases k with
    | zero =>
      have HC := Lib.hid (show cOf bs n = zB from cOf_none (fun x hx => by obtain ⟨i, hi⟩ := List.getElem?_of_mem hx; exact HNO.out i x (Nat.zero_le _) hi))
      have e0 : ((0 : Nat) : Int) - 1 = -1 := rfl
      rw [e0]
      clear e0
      go_wp2_with fail
      refine HZ.out.mono ?_
      rintro e w' ⟨a, c, rfl, ho, hb⟩
      have HO := Lib.hid ho
      have HB := Lib.hid hb
      clear ho hb
      go_wp2_with fail
      go_ret
      exact ⟨a, c, rfl, HC.out ▸ HO.out, HB.out⟩
    | succ j =>
      have e0 : ((j + 1 : Nat) : Int) - 1 = (j : Int) := by omega
      rw [e0]
      obtain ⟨x, hx⟩ : ∃ x, bs[j]? = some x := ⟨_, List.getElem?_eq_getElem (by omega)⟩
      obtain ⟨b, o, rfl, hcell⟩ := HIN.out.2.2.resolve_left (by omega)
      have hr := hcell j x hx
      have k0 : w.cell? ⟨b, o + j * 2, none⟩ = some (.int .i64 x.N) := range_cell hr (j := 0) rfl
      have k1 : w.cell? ⟨b, o + j * 2 + 1, none⟩ = some (.slice x.a x.n x.c) := range_cell hr (j := 1) rfl
      have hbl : b < w.heap.size := World.block_lt_of_cell? w _ k0
      have hj : j < bs.length := by omega
      have hji : (j : Int) < (bs.length : Int) := by omega
      have HX := Lib.hid hx
      clear e0 hr hcell hx
      by_cases hN : x.N = n
      · have hm := List.mem_of_getElem? HX.out
        have HC := Lib.hid (show cOf bs n = x.l from hN ▸ cOf_at HP.out hm)
        have hn5 := (H5.out x hm).1
        have hbin := (HIN.out.2.1 x hm).1
        have t0 : (x.N == n) = true := by simp [hN]
        rw [hn5] at k1 hbin
        have HBW := Lib.hid (hbin.below ((Below.refl w.heap.size w).alloc (Nat.le_refl _) (.cells #[] 5)))
        have HZR := Lib.hid (zero_row w)
        clear hN hbin hm hn5
        go_wp2_with (refine wpList_append_bytes _ rfl (.tmp 26) (.tmp 34) rfl w.heap.size _ 0 [] rfl HZR.out x.a 512 x.c x.l rfl HBW.out (by omega) (by simp) ?_)
        intro v' w' ho hg
        have hl : x.l.length = 512 := HBW.out.1.1
        obtain ⟨a', c', rfl, _, _⟩ := own_in ho HBW.out.1.2.2.1 (by omega)
        have HO := Lib.hid ho
        have HB := Lib.hid (((Below.refl w.heap.size w).alloc (Nat.le_refl _) (.cells #[] 5)).trans (grown_new0 hg (Nat.le_refl _) (by simp)))
        clear ho hg
        go_wp2_with fail
        go_ret
        exact ⟨a', c', rfl, HC.out ▸ HO.out, HB.out⟩
      · have t0 : (x.N == n) = false := by simp [hN]
        have HN := Lib.hid hN
        clear hN
        go_wp2_with fail
        go_round
        case rel => exact ⟨j, rfl, by omega, fun i y hi hy => by
          by_cases e : i = j
          · subst e; rw [HX.out] at hy; injection hy with hy; exact hy ▸ HN.out
          · exact HNO.out i y (by omega) hy⟩
        case measure => simp [intOf] <;> omega
set_option maxHeartbeats 400000 in
theorem rread_off (base r : Nat) (N left many n : Int) (dn : Bool) (bs : List BlkR) (w : World) (h : RfAt w base r N true left dn many bs) :
    Calls Try.prog 32 #[.pointer (some ⟨r, 0, none⟩), .int .i64 n] w fun e w' => e = .returned (.tuple #[.slice none 0 0, .int .i64 143]) ∧ w = w' := by
  obtain ⟨a, c, c0, c1, c2, c3, c4, c5, _, _⟩ := h.cells
  clear h c1 c4 c5 c3
  go_enter Try.func32, Try.ntmps32
  go_wp2
  go_ret2
  exact ⟨rfl, rfl⟩
set_option maxHeartbeats 400000 in
theorem rread_out (base r : Nat) (N left many n : Int) (dn : Bool) (bs : List BlkR) (w : World) (h : RfAt w base r N false left dn many bs) (hn : n < 0 ∨ N ≤ n) :
    Calls Try.prog 32 #[.pointer (some ⟨r, 0, none⟩), .int .i64 n] w fun e w' => e = .returned (.tuple #[.slice none 0 0, .int .i64 141]) ∧ w = w' := by
  obtain ⟨a, c, c0, c1, c2, c3, c4, c5, _, _⟩ := h.cells
  clear h c1 c4 c5 c3
  by_cases q : n < 0
  · clear hn
    go_enter Try.func32, Try.ntmps32
    go_wp2
    go_ret2
    exact ⟨rfl, rfl⟩
  · have q2 : N ≤ n := by omega
    clear hn
    go_enter Try.func32, Try.ntmps32
    go_wp2
    go_ret2
    exact ⟨rfl, rfl⟩
set_option maxHeartbeats 400000 in
theorem rread_ok (base r : Nat) (N left many n : Int) (dn : Bool) (bs : List BlkR) (w : World) (h : RfAt w base r N false left dn many bs) (h0 : 0 ≤ n) (h1 : n < N) :
    Calls Try.prog 32 #[.pointer (some ⟨r, 0, none⟩), .int .i64 n] w fun e w' => ∃ a c, e = .returned (.tuple #[.slice a 512 c, .int .i64 0]) ∧ w'.ownsRow w.heap.size 5 1 (.slice a 512 c) 512 (bytesV (cOf bs n)) ∧ Below w.heap.size w w' := by
  have H := Lib.hid (holds_any base r N left many n false dn bs w h)
  unfold HoldIs at H
  obtain ⟨a, c, c0, c1, c2, c3, c4, c5, _, _⟩ := h.cells
  have q2 : ¬ N ≤ n := by omega
  have q1 : ¬ n < 0 := by omega
  clear h c1 c4 c5 c3
  go_enter Try.func32, Try.ntmps32
  go_wp2_with fail
  refine H.out.mono ?_
  rintro e w' ⟨a2, c2, rfl, ho, hb⟩
  have HO := Lib.hid ho
  have HB := Lib.hid hb
  clear ho hb H
  go_wp2_with fail
  go_ret2
  exact ⟨_, _, rfl, HO.out, HB.out⟩
end Go.Proofs.Ytlgpaglkhgomiaa
