/- Bytes told as digits: the document's function gives the plain digits of HexM. -/
import Derived.Test.YtgoackkmjfgneaaHex
namespace Go.Proofs.Ytgoackkmjfgneaa
open Go.RowKit
set_option linter.unusedVariables false

set_option maxHeartbeats 400000 in
theorem hex33 (a : Option Addr) (len cap : Nat) (l : List Nat) (w : World) (hr : ByteRow w a len l) (hreach : len ≤ 140737488351232) :
    Calls Try.prog 33 #[.slice a len cap] w fun e w' => e = .returned (.string (strV (hexL l))) ∧ Below w.heap.size w w' := by
  obtain ⟨hlen, _, hb, hrow⟩ := hr
  have HL := Lib.hid hlen
  have HR := Lib.hid hrow
  clear hlen hrow
  obtain ⟨i0, hi, hz0, hz1, hz2⟩ := info_parts info5
  go_enter Try.func33, Try.ntmps33
  go_wp2_with (at_make; refine wpList_make_own _ rfl _ _ 22 rfl w.heap.size 5 i0 (.int .u8 0) 1 Try.underlying22 hi hz0 hz1 _ _ _ (2 * len) rfl rfl (by omega) (by rw [hz2]; omega) (by unfold maxLen; omega) (Nat.le_refl _) ?_)
  intro w1 hown hgrow
  go_wp2_with fail
  go_loopw [3, 4] (fun v i wr => ∃ k : Nat, k ≤ len ∧ i = .int .i64 k ∧ v = .slice (some ⟨w.heap.size, 0, none⟩) (2 * k) (2 * len) ∧ wr.ownsRow w.heap.size 5 1 v (2 * k) (bytesV (hexL (l.take k))) ∧ Below w.heap.size w wr) (fun _ i _ => len - (intOf i).toNat)
  case atStart => exact ⟨0, Nat.zero_le _, rfl, by simp, hown, (Below.refl _ _).grown hgrow (Nat.le_refl _) (by simp)⟩
  case round =>
    obtain ⟨k, hk, rfl, rfl, hown, hbel⟩ := hrel
    by_cases hlt : k < len
    · obtain ⟨b, off, rfl, hc⟩ := HR.out.resolve_left (by omega)
      have hc1 := hc k hlt
      have hcell : wr.cell? ⟨b, off + k, none⟩ = some (.int .u8 (l.getD k 0 : Nat)) := (hbel.cell (World.block_lt_of_cell? w _ hc1)).trans hc1
      have hx := getD_lt hb k
      clear hc hc1
      have HS := Lib.hid (hexL_snoc (l.take k) (l.getD k 0))
      have HT := Lib.hid (take_snoc l k (by have := HL.out; omega))
      generalize l.getD k 0 = x at *
      go_wp2_with fail
      obtain ⟨h, g, hh, hgg, hq, ha, HD⟩ := hex_parts x hx
      have h1 : (h : Int) < 16 := by omega
      have h2 : (g : Int) < 16 := by omega
      have hw8 : IntKind.u8.wrap (h : Int) = (h : Int) := IntWalk.u8_in _ (by omega)
      have hr1 : (x : Int) % 16 = (g : Int) := by have := HD.out.2; omega
      have hr2 : (x : Int).tmod 16 = (g : Int) := by rw [Int.tmod_eq_emod_of_nonneg (by omega)]; exact hr1
      clear ha
      have hg1 := dig_at h hh
      have hg2 := dig_at g hgg
      go_region_law ((refine step_append_fits rfl (.tmp 15) (.tmp 28) 22 rfl w.heap.size 5 i0 1 Try.underlying22 hi hz1 w.heap.size (2 * k) (2 * len) _ (by simp [Act.eval]) (hown.drew.alloc _) ⟨wr.heap.size, 0, none⟩ 2 2 [.int .u8 (hexD h : Nat), .int .u8 (hexD g : Nat)] (by simp [Act.eval]) rfl (cell_two_new _ _ _ _) (by simp [Value.oneCell']) (by omega) ?_; intro w2 hown2 hgrow2))
      all_goals
        rw [hex_step HT.out HS.out HD.out] at hown2
        have hbel2 : Below w.heap.size w w2 := ((hbel.alloc hbel.size _).drew).grown hgrow2 (by have := hbel.size; simp; omega) (by intro k hk; simp at hk; omega)
        clear hq hw8 hr1 hr2 hg1 hg2 hcell hown hgrow2 hgrow hbel
        go_wp2
        go_roundw
        case rel => exact ⟨k + 1, by omega, by go_num, rfl, hown2, hbel2⟩
        case measure => simp [intOf]; omega
    · obtain rfl : k = len := by omega
      have hfin : l.take k = l := List.take_of_length_le (by have := HL.out; omega)
      rw [hfin] at hown
      have hcv := own_str hown
      go_wp2
      go_ret
      exact ⟨rfl, hbel⟩
end Go.Proofs.Ytgoackkmjfgneaa
