/- A state told and opened again is the same hash; plain mathematics of ShaPieces. No condition. -/
import Derived.Test.YtnikhnpigopihaaDoorOpen
import Derived.Test.YtnikhnpigopihaaDoorState
import Derived.Test.YtnikhnpigopihaaDoorBack
import Derived.Test.YtnikhnpigopihaaDoorMeth
import Derived.Test.YtnikhnpigopihaaDoorOnce
namespace Go.Proofs.YtnikhnpigopihaaDoor
open Go.RowKit
set_option linter.unusedVariables false
set_option linter.unusedSimpArgs false
theorem flat_at (m : Nat) : ∀ (S : List Nat) (i : Nat) (T : List Nat), i < S.length → ((beW m S ++ T).drop (i * m)).take m = beB m (S.getD i 0)
  | [], i, T, h => absurd h (Nat.not_lt_zero i)
  | x :: r, 0, T, h => by
    have e : beW m (x :: r) = beB m x ++ beW m r := rfl
    rw [e, Nat.zero_mul, List.drop_zero, List.append_assoc, List.take_append_of_le_length (by rw [beB_length]; exact Nat.le_refl _), List.take_of_length_le (by rw [beB_length]; exact Nat.le_refl _)]
    rfl
  | x :: r, i + 1, T, h => by
    have e : beW m (x :: r) = beB m x ++ beW m r := rfl
    have hl : (i + 1) * m = (beB m x).length + i * m := by rw [beB_length, Nat.add_mul]; omega
    rw [e, List.append_assoc, hl, ← List.drop_drop, List.drop_left]
    exact flat_at m r i T (by simpa using h)
theorem pow_wB {k x : Nat} (h : x < 2 ^ wW k) : x < 256 ^ wB k := by
  have : (256 : Nat) ^ wB k = 2 ^ wW k := by unfold wB wW; split <;> decide
  rw [this]; exact h
theorem state_head_len (k n : Nat) : ([k] ++ beB 8 n : List Nat).length = 9 := by rw [List.length_append, beB_length]; rfl
theorem stW_state {k n : Nat} {S T : List Nat} (hS : S.length = 8) (hx : ∀ x ∈ S, x < 2 ^ wW k) (i : Nat) (hi : i < 8) : stW k (stateN k n S T) i = S.getD i 0 := by
  unfold stW stateN
  have e : (([k] ++ beB 8 n) ++ beW (wB k) S ++ T).drop (9 + i * wB k) = (beW (wB k) S ++ T).drop (i * wB k) := by
    have := List.drop_left (l₁ := ([k] ++ beB 8 n)) (l₂ := beW (wB k) S ++ T)
    rw [state_head_len] at this
    rw [List.append_assoc, ← List.drop_drop, this]
  rw [e, flat_at _ _ _ _ (by omega)]
  refine be_beB _ _ (pow_wB (hx _ ?_))
  rw [List.getD_eq_getElem?_getD, List.getElem?_eq_getElem (by omega)]
  exact List.getElem_mem _
theorem words_state {k n : Nat} {S T : List Nat} (hS : S.length = 8) (hx : ∀ x ∈ S, x < 2 ^ wW k) : tell (stW k (stateN k n S T)) 8 = S := by
  apply List.ext_getElem (by rw [tell_length, hS])
  intro i h1 h2
  have hi : i < 8 := by rw [tell_length] at h1; exact h1
  have e := stW_state (n := n) (T := T) hS hx i hi
  simp only [tell, List.getElem_map, List.getElem_range]
  rw [e, List.getD_eq_getElem?_getD, List.getElem?_eq_getElem h2]; rfl
theorem rest_state {k n : Nat} {S T : List Nat} (hS : S.length = 8) : (stateN k n S T).drop (9 + 8 * wB k) = T := by
  unfold stateN
  have hl : (([k] ++ beB 8 n) ++ beW (wB k) S : List Nat).length = 9 + 8 * wB k := by rw [List.length_append, state_head_len, beW_length, hS]
  have := List.drop_left (l₁ := (([k] ++ beB 8 n) ++ beW (wB k) S)) (l₂ := T)
  rwa [hl] at this
theorem state_len {k n : Nat} {S T : List Nat} (hS : S.length = 8) : (stateN k n S T).length = 9 + 8 * wB k + T.length := by
  unfold stateN; rw [List.length_append, List.length_append, state_head_len, beW_length, hS]
theorem state_be {k n : Nat} {S T : List Nat} (hn : n < 2 ^ 64) : be (((stateN k n S T).drop 1).take 8) = n := by
  have e : (stateN k n S T).drop 1 = beB 8 n ++ (beW (wB k) S ++ T) := by unfold stateN; rw [List.append_assoc]; rfl
  rw [e, List.take_append_of_le_length (by rw [beB_length]; exact Nat.le_refl _), List.take_of_length_le (by rw [beB_length]; exact Nat.le_refl _)]
  exact be_beB 8 n (by have : (256 : Nat) ^ 8 = 2 ^ 64 := by decide
                       rw [this]; exact hn)
theorem state_lt {k n : Nat} {S T : List Nat} (hk : IsKind k) (hT : ∀ x ∈ T, x < 256) : ∀ x ∈ stateN k n S T, x < 256 := by
  intro x hx
  unfold stateN at hx
  rcases List.mem_append.1 hx with hx | hx
  · rcases List.mem_append.1 hx with hx | hx
    · rcases List.mem_append.1 hx with hx | hx
      · obtain rfl : x = k := by simpa using hx
        rcases hk with rfl | rfl | rfl <;> decide
      · exact beB_lt 8 n x hx
    · exact beW_lt _ _ x hx
  · exact hT x hx
/-- a hash that has taken in these bytes -/
def HX (w : World) (g k : Nat) (L : List Nat) : Prop := (∀ x ∈ L, x < 256) ∧ HashAt w g k L.length (goes (wW k) (firstN k) L).1 (goes (wW k) (firstN k) L).2
theorem wW_pos (k : Nat) : 0 < wW k := by unfold wW; split <;> omega
theorem HX.blk {w : World} {g k : Nat} {L : List Nat} (h : HX w g k L) : ∃ cs, Blk w g 72 cs := let ⟨r, b⟩ := h.2.blk; ⟨_, b⟩
theorem HashAt.grown' {w w' : World} {g k n : Nat} {s t : List Nat} {r : Option Nat} (h : HashAt w g k n s t) (hb : w.grownBy w' r) (hr : some g ≠ r) : HashAt w' g k n s t := by
  obtain ⟨h1, h2, h3, h4, h5, h6, r0, h7, h8, h9, h10⟩ := h
  exact ⟨h1, h2, h3, h4, h5, h6, r0, h7, h8, h9, h10.grown hb hr⟩
theorem HX.grown {w w' : World} {g k : Nat} {L : List Nat} {r : Option Nat} (h : HX w g k L) (hb : w.grownBy w' r) (hr : some g ≠ r) : HX w' g k L := ⟨h.1, h.2.grown' hb hr⟩
theorem HX.below {w w' : World} {g k : Nat} {L : List Nat} (h : HX w g k L) (hb : Below w.heap.size w w') : HX w' g k L := by
  obtain ⟨r, b⟩ := h.2.blk
  exact h.grown (grown_below hb none) (fun e => by cases e)
/-- what the call made is no hash -/
theorem own_ne {w : World} {base n g : Nat} {V : Value} {xs : List Value} {cs : List Value} (h : w.ownsRow base 5 1 V n xs) (hb : Blk w g 72 cs) : some g ≠ V.ownBlock := by
  intro e
  rcases h.2 with ⟨rfl, _⟩ | ⟨G, cap, cur, rfl, _, hG, _⟩
  · cases e
  · have e2 : g = G := Option.some.inj e
    subst e2
    unfold Blk at hb
    rw [hb] at hG
    cases hG
theorem write_HX (g k : Nat) (L l : List Nat) (a : Option Addr) (m c : Nat) (w : World) (h : HX w g k L) (hb : BIn w a m c l) (hab : ∀ b, a = some b → 0 < m → b.block ≠ g) (htab : Tabs w) (hl : L.length + m ≤ 2305843009213693951) :
    Calls Tryd.prog 27 #[.pointer (some ⟨g, 0, none⟩), .slice a m c] w fun e w' => e = .returned (.int .i64 0) ∧ HX w' g k (L ++ l) ∧ w.grownBy w' (some g) :=
  (write_any g k L.length _ _ l a m c w h.2 hb hab htab hl).mono fun e w' ⟨h1, h2, h3⟩ => ⟨h1, ⟨fun x hx => (List.mem_append.1 hx).elim (h.1 x) (hb.1.2.2.1 x), by
    rw [List.length_append, hb.1.1, goes_append (wW_pos k) L.length _ L l rfl]; exact h2⟩, h3⟩
/-- a new hash -/
def NewH (k : Nat) (w : World) (e : Ending) (w' : World) : Prop := ∃ g, e = .returned (.tuple #[.pointer (some ⟨g, 0, none⟩), .int .i64 0]) ∧ w.heap.size ≤ g ∧ HX w' g k [] ∧ Below w.heap.size w w'
def bitsK (k : Nat) : Int := if k = 1 then 256 else if k = 2 then 384 else 512
set_option maxHeartbeats 800000 in
theorem new_any (k : Nat) (hk : IsKind k) (w : World) (htab : Tabs w) (h2 : 2 ≤ w.heap.size) : Calls Tryd.prog 18 #[.int .i64 (bitsK k)] w (NewH k w) := by
  have HB := Lib.hid (begin_any k hk w htab)
  have H0 := Lib.hid (fun (w' : World) (g : Nat) (hg : w.heap.size ≤ g) (hb : Blk w' g 72 (hashV k 0 (firstN k) (zeros 128))) => show HX w' g k [] from ⟨by simp, by
    have e : goes (wW k) (firstN k) [] = (firstN k, []) := goes_lo (by have := wW_pos k; simp; omega)
    rw [e]; exact hash_new hk (by omega) hb⟩)
  rcases hk with rfl | rfl | rfl
  all_goals
    unfold bitsK
    go_enter Tryd.func18, Tryd.ntmps18
    go_wp2_with fail
    refine HB.out.mono ?_
    rintro e w' ⟨g, rfl, hg, hblk, hbe⟩
    have HN := Lib.hid (H0.out w' g hg hblk)
    clear hblk
    go_wp2_with fail
    go_ret2
    exact ⟨g, rfl, hg, HN.out, hbe⟩
end Go.Proofs.YtnikhnpigopihaaDoor
