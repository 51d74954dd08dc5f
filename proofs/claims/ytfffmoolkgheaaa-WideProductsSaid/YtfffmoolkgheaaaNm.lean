/- The document's digits of a number, and the number of digits. No condition. -/
import Derived.Test.YtfffmoolkgheaaaDg
namespace Go.Proofs.Ytfffmoolkgheaaa
open Go.RowKit
set_option linter.unusedVariables false
set_option linter.unusedSimpArgs false
/-- digits to the base 2^16 that a slice leads to -/
def Rd16 (w : World) (g n V : Nat) : Prop := ∀ i, i < n → w.cell? ⟨g, i, none⟩ = some (.int .u32 (dgt (2 ^ 16) V i : Nat))
theorem Rd16.below {w w' : World} {g n V : Nat} (h : Rd16 w g n V) (hb : Below w.heap.size w w') : Rd16 w' g n V := fun i hi => (hb.cell (World.block_lt_of_cell? w _ (h i hi))).trans (h i hi)
theorem Rd16.keep {w w' : World} {B g n V : Nat} (h : Rd16 w g n V) (hb : Below B w w') (hg : g < B) : Rd16 w' g n V := fun i hi => (hb.cell (p := ⟨g, i, none⟩) hg).trans (h i hi)
/-- what came out of the making of a list, as an address and its cells -/
theorem own_nats {w : World} {B E n : Nat} {k : IntKind} {v : Value} {l : List Nat} (h : w.ownsRow B E 1 v n (natsV k l)) (hn : 0 < n) : ∃ g c, v = .slice (some ⟨g, 0, none⟩) n c ∧ l.length = n ∧ B ≤ g ∧ g < w.heap.size ∧ n ≤ c ∧ ∀ i, i < n → w.cell? ⟨g, i, none⟩ = some (.int k (l.getD i 0 : Nat)) := by
  have hl : l.length = n := by have := h.1; simpa [natsV] using this
  rcases h.2 with ⟨rfl, he⟩ | ⟨g, cap, cur, rfl, hbg, hg, h1, h2, rest⟩
  · omega
  · refine ⟨g, cap, rfl, hl, hbg, (Array.getElem?_eq_some_iff.1 hg).1, by omega, fun i hi => ?_⟩
    have := h.cellAt i (by omega)
    rw [this, natsV_get _ _ _ (by omega)]
theorem own_low {w : World} {B B' E size n : Nat} {v : Value} {xs : List Value} (h : w.ownsRow B E size v n xs) (hB : B' ≤ B) : w.ownsRow B' E size v n xs := by
  refine ⟨h.1, ?_⟩
  rcases h.2 with h2 | ⟨g, cap, cur, rfl, hbg, rest⟩
  · exact .inl h2
  · exact .inr ⟨g, cap, cur, rfl, Nat.le_trans hB hbg, rest⟩
theorem made16 {w w' : World} {n V : Nat} {e : Ending} (h : Made32 (tell (dgt (2 ^ 16) V) n) w e w') (hn : 0 < n) : ∃ g c, e = .returned (.slice (some ⟨g, 0, none⟩) n c) ∧ w.heap.size ≤ g ∧ n ≤ c ∧ w'.ownsRow w.heap.size 77 1 (.slice (some ⟨g, 0, none⟩) n c) n (natsV .u32 (tell (dgt (2 ^ 16) V) n)) ∧ Rd16 w' g n V ∧ Below w.heap.size w w' := by
  obtain ⟨v, rfl, hown, hb⟩ := h
  rw [tell_length] at hown
  obtain ⟨g, c, rfl, hl, h1, h2, h3, hc⟩ := own_nats hown hn
  exact ⟨g, c, rfl, h1, h3, hown, fun i hi => by rw [hc i hi, tell_getD _ _ _ hi], hb⟩
set_option maxHeartbeats 400000 in
theorem Digits_any (x : Nat) (w : World) : Calls Try.prog 52 #[.agg (natsV .u64 (wds 4 x)).toArray] w (Made32 (tell (dgt (2 ^ 16) x) 16) w) := by
  have HD := Lib.hid (fun (w : World) (g c : Nat) (h : Blk w g 24 (natsV .u64 (wds 4 x))) => digits_any x 4 c g w (by omega) (Rd.blk h))
  generalize wds 4 x = la at *
  have B1 := Lib.hid (Blk.new w 24 (natsV .u64 la))
  have BEL := Lib.hid ((Below.refl w.heap.size w).alloc (Nat.le_refl _) (.cells (natsV .u64 la).toArray 24))
  go_enter Try.func52, Try.ntmps52
  go_wp2_with fail
  refine (HD.out _ w.heap.size 4 B1.out).mono ?_
  rintro e w1 ⟨v, rfl, hown, hb⟩
  have hbel := BEL.out.trans (hb.mono BEL.out.size)
  have hown2 : w1.ownsRow w.heap.size 77 1 v 16 (natsV .u32 (tell (dgt (2 ^ 16) x) 16)) := own_low hown (by simp)
  clear hown hb
  go_wp2_with fail
  go_ret
  exact ⟨_, rfl, by rw [tell_length]; exact hown2, hbel⟩
set_option maxHeartbeats 400000 in
theorem word_any (V n c g i : Nat) (w : World) (hr : Rd16 w g n V) (hi : 4 * i + 4 ≤ n) (hn : n ≤ 64) : Calls Try.prog 53 #[.slice (some ⟨g, 0, none⟩) n c, .int .i64 (i : Nat)] w fun e w' => e = .returned (.int .u64 (dgt (2 ^ 64) V i : Nat)) ∧ w = w' := by
  have HR := Lib.hid hr
  have HD := Lib.hid (fun k (hk : k < 4) => dgt_word V i k hk)
  have HX := dgt_lt (B := 2 ^ 64) (by decide) V i
  clear hr
  generalize dgt (2 ^ 64) V i = x at *
  have H0 := Lib.hid (show x / (2 ^ 16) ^ 4 = 0 from Nat.div_eq_of_lt (by rw [← Nat.pow_mul]; exact HX))
  go_enter Try.func53, Try.ntmps53
  go_wp2_with fail
  go_loop [5, 6] (fun y k => ∃ s : Nat, s ≤ 4 ∧ k = .int .i64 ((s : Int) - 1) ∧ y = .int .u64 (x / (2 ^ 16) ^ s : Nat)) (fun _ k => (intOf k + 1).toNat)
  case atStart => exact ⟨4, by omega, rfl, by rw [H0.out]; rfl⟩
  case round =>
    obtain ⟨s, hs, rfl, rfl⟩ := hrel
    rcases s with _ | s
    · rw [show ((0 : Nat) : Int) - 1 = -1 from rfl]
      rw [show x / (2 ^ 16) ^ 0 = x by simp]
      go_wp2_with fail
      go_ret
      exact ⟨rfl, rfl⟩
    · rw [show ((s + 1 : Nat) : Int) - 1 = (s : Int) by omega]
      have c0 := HR.out (4 * i + s) (by omega)
      have HD1 := HD.out s (by omega)
      have HZ := Lib.hid (show x / (2 ^ 16) ^ s = x / (2 ^ 16) ^ (s + 1) * 65536 + dgt (2 ^ 16) V (4 * i + s) by
        rw [← HD1, Nat.pow_succ (2 ^ 16), ← Nat.div_div_eq_div_mul]
        unfold dgt
        generalize x / (2 ^ 16) ^ s = y
        omega)
      have HZL : x / (2 ^ 16) ^ s < 18446744073709551616 := Nat.lt_of_le_of_lt (Nat.div_le_self _ _) HX
      have HL := dgt_lt (B := 2 ^ 16) (by decide) V (4 * i + s)
      generalize dgt (2 ^ 16) V (4 * i + s) = d at *
      obtain ⟨y, hy⟩ : ∃ y, y = x / (2 ^ 16) ^ s := ⟨_, rfl⟩
      rw [← hy] at HZ HZL
      have HY := Lib.hid hy
      clear HD1 hy
      generalize x / (2 ^ 16) ^ (s + 1) = z at *
      have hz : z * 65536 + d < 18446744073709551616 := by rw [← HZ.out]; exact HZL
      go_wp2_with fail
      go_round
      case rel => exact ⟨s, by omega, rfl, by rw [← HY.out, HZ.out]; go_num⟩
      case measure => simp [intOf] <;> omega
theorem wds4 (V : Nat) : (natsV .u64 (wds 4 V)).toArray = #[.int .u64 (dgt (2 ^ 64) V 0 : Nat), .int .u64 (dgt (2 ^ 64) V 1 : Nat), .int .u64 (dgt (2 ^ 64) V 2 : Nat), .int .u64 (dgt (2 ^ 64) V 3 : Nat)] := rfl
set_option maxHeartbeats 400000 in
theorem Num_any (V n c g : Nat) (w : World) (hr : Rd16 w g n V) (hn : 16 ≤ n) (hn2 : n ≤ 64) : Calls Try.prog 125 #[.slice (some ⟨g, 0, none⟩) n c] w fun e w' => e = .returned (.agg (natsV .u64 (wds 4 V)).toArray) ∧ Below w.heap.size w w' := by
  have HR := Lib.hid (hr.keep ((Below.refl _ _).alloc (Nat.le_refl _) (.cells (natsV .u64 (zeros 4)).toArray 24)) (World.block_lt_of_cell? w _ (hr 0 (by omega))))
  have HW := Lib.hid (fun (w : World) (h : Rd16 w g n V) (i : Nat) (hi : i < 4) => word_any V n c g i w h (by omega) hn2)
  have HB := Lib.hid (wds4 V)
  have LS := Lib.hid (wds_len 4 V)
  generalize wds 4 V = ls at *
  clear hr
  have B1 := Lib.hid (Blk.new w 24 (natsV .u64 (zeros 4)))
  have BEL := Lib.hid ((Below.refl w.heap.size w).alloc (Nat.le_refl _) (.cells (natsV .u64 (zeros 4)).toArray 24))
  go_enter Try.func125, Try.ntmps125
  go_wp2_with fail
  refine (HW.out _ HR.out 0 (by decide)).mono ?_
  rintro e w1 ⟨rfl, rfl⟩
  go_wp2_with fail
  refine (HW.out _ HR.out 1 (by decide)).mono ?_
  rintro e w1 ⟨rfl, rfl⟩
  go_wp2_with fail
  refine (HW.out _ HR.out 2 (by decide)).mono ?_
  rintro e w1 ⟨rfl, rfl⟩
  go_wp2_with fail
  refine (HW.out _ HR.out 3 (by decide)).mono ?_
  rintro e w1 ⟨rfl, rfl⟩
  generalize dgt (2 ^ 64) V 0 = d0 at *
  generalize dgt (2 ^ 64) V 1 = d1 at *
  generalize dgt (2 ^ 64) V 2 = d2 at *
  generalize dgt (2 ^ 64) V 3 = d3 at *
  have j := B1.out.setRow (natsV .u64 ls)
  have hbel := below_setRow' BEL.out (Nat.le_refl _) (natsV .u64 ls).toArray
  have hev : Value.agg #[.int .u64 (d0 : Nat), .int .u64 (d1 : Nat), .int .u64 (d2 : Nat), .int .u64 (d3 : Nat)] = .agg (natsV .u64 ls).toArray := by rw [HB.out]
  have HEV := Lib.hid hev
  clear hev
  go_wp2_with (refine st24 rfl (.tmp 2) (.tmp 11) rfl w.heap.size rfl ls HEV.out LS.out (zeros 4) B1.out rfl ?_)
  refine bodyPost_ret (v := .agg (natsV .u64 ls).toArray) ?_ rfl ⟨rfl, hbel⟩
  exact ret24 Try.results125 _ _ w.heap.size ls rfl j LS.out
end Go.Proofs.Ytfffmoolkgheaaa
