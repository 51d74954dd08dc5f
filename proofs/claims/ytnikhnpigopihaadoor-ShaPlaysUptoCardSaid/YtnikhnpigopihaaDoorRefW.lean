/- The document's words told as bytes. No condition. -/
import Derived.Test.YtnikhnpigopihaaDoorRefF
import Derived.Test.YtnikhnpigopihaaDoorApp
namespace Go.Proofs.YtnikhnpigopihaaDoor
open Go.RowKit
set_option linter.unusedVariables false
set_option maxHeartbeats 1600000 in
theorem words_any (k : Nat) (hk : IsKind k) (s : List Nat) (w : World) (h8 : s.length = 8) (hx : ∀ x ∈ s, x < 2 ^ 64) :
    Calls Tryd.prog 49 #[.int .i64 (k : Nat), .agg (natsV .u64 s).toArray] w (AppIs w.heap.size (beW (wB k) s) w) := by
  have HKI := Lib.hid (show ∀ w, Calls Tryd.prog 32 #[.int .i64 (k : Nat)] w fun e w' => e = .returned (.tuple #[.int .u64 (wW k : Nat), .int .i64 (16 * wB k : Nat), .int .i64 (rounds (wW k) : Nat), .int .i64 (dgB k : Nat)]) ∧ w = w' from fun w => Kind_any k hk w)
  have hw : wW k = 8 * wB k := by unfold wW wB; split <;> rfl
  have hwb : wB k ≤ 8 ∧ 4 ≤ wB k := by unfold wB; split <;> omega
  rw [hw] at HKI
  clear hw
  have BLK := Lib.hid (Blk.new w 66 (natsV .u64 s))
  have H8 := Lib.hid h8
  have HX := Lib.hid hx
  clear h8 hx
  generalize rounds (8 * wB k) = rr at *
  generalize 16 * wB k = sz at *
  generalize dgB k = dd at *
  generalize wB k = wb at *
  go_enter Tryd.func49, Tryd.ntmps49
  go_wp2_with fail
  refine (HKI.out _).mono ?_
  rintro e w' ⟨rfl, rfl⟩
  go_wp2_with fail
  have hb0 : Below w.heap.size w (w.alloc (.cells (natsV .u64 s).toArray 66)) := (Below.refl _ _).alloc (Nat.le_refl _) _
  obtain ⟨W1, hW1⟩ : ∃ W1 : World, w.alloc (.cells (natsV .u64 s).toArray 66) = W1 := ⟨_, rfl⟩
  have hs1 : W1.heap.size = w.heap.size + 1 := by rw [← hW1]; simp
  rw [hW1] at hb0 BLK ⊢
  clear hW1
  go_loopw [9, 10] (fun v i wr => ∃ t : Nat, t ≤ 8 ∧ i = .int .i64 (t : Nat) ∧ wr.ownsRow (w.heap.size + 1) 5 1 v (wb * t) (bytesV (beW wb (s.take t))) ∧ Below (w.heap.size + 1) W1 wr) (fun _ i _ => 8 - (intOf i).toNat)
  case atStart => exact ⟨0, by omega, rfl, by simpa [beW, bytesV] using World.ownsRow_nil W1 (w.heap.size + 1) 5 1, Below.refl _ _⟩
  case round =>
    obtain ⟨t, ht, rfl, ho, hbel⟩ := hrel
    have HO := Lib.hid ho
    clear ho
    by_cases ht8 : t < 8
    · have hti : (t : Int) < 8 := by omega
      have HC := Lib.hid (BLK.out.nat t (by rw [H8.out]; exact ht8))
      have HSN := Lib.hid (beW_snoc wb s t (by rw [H8.out]; exact ht8))
      have hxl := getD_lt' HX.out (by decide) t
      have HXL := Lib.hid hxl
      clear hxl
      generalize s.getD t 0 = x at *
      have hmul : wb * t ≤ 64 := by
        have := Nat.mul_le_mul hwb.1 (show t ≤ 8 by omega); omega
      go_wp2_with fail
      go_loopw [9, 11] (fun v i wr' => ∃ j : Nat, j ≤ wb ∧ i = .int .i64 (8 * (wb : Int) - 8 - 8 * (j : Int)) ∧ wr'.ownsRow (w.heap.size + 1) 5 1 v (wb * t + j) (bytesV (beW wb (s.take t) ++ tell (dig wb x) j)) ∧ Below (w.heap.size + 1) W1 wr') (fun _ i _ => (intOf i + 8).toNat)
      case atStart => exact ⟨0, by omega, by simp, by simpa [tell] using HO.out, hbel⟩
      case round =>
        clear hbel HO
        obtain ⟨j, hj, rfl, ho, hbel⟩ := hrel
        have HO := Lib.hid ho
        clear ho
        by_cases hjw : j < wb
        · rw [show 8 * (wb : Int) - 8 - 8 * (j : Int) = ((8 * (wb - 1 - j) : Nat) : Int) from by omega]
          have hdg : (x : Int) / 2 ^ (8 * (wb - 1 - j)) % 256 = ((dig wb x j : Nat) : Int) := by
            unfold dig; rw [cast_pow, ← Int.natCast_ediv]; rfl
          have hdgl := dig_lt wb x j
          have HT := Lib.hid (tell_succ (dig wb x) j)
          have e5 : min (8 * (wb - 1 - j)) 64 = 8 * (wb - 1 - j) := by omega
          have h56 : 8 * (wb - 1 - j) ≤ 56 := by omega
          have hcell : wr.cell? ⟨w.heap.size, t, none⟩ = some (.int .u64 (x : Nat)) := (hbel.cell (show w.heap.size < w.heap.size + 1 by omega)).trans HC.out
          have HNX := Lib.hid (show 8 * (wb : Int) - 8 - 8 * ((j + 1 : Nat) : Int) = ((8 * (wb - 1 - j) : Nat) : Int) - 8 from by omega)
          generalize dig wb x j = y at *
          have hszw := hbel.size
          have hbel2 := hbel.alloc (show w.heap.size + 1 ≤ wr.heap.size by omega) (.cells #[.int .u8 (y : Nat)] 5)
          have HBN := Lib.hid (bin_new wr y hdgl)
          have HO2 := Lib.hid (HO.out.alloc (.cells #[.int .u8 (y : Nat)] 5))
          have hge0 : (0 : Int) ≤ ((8 * (wb - 1 - j) : Nat) : Int) := by omega
          generalize 8 * (wb - 1 - j) = E at *
          go_wp2_with (at_builtin; refine wpList_append_bytes _ rfl _ _ rfl (w.heap.size + 1) u9 (wb * t + j) (beW wb (s.take t) ++ tell (dig wb x) j) rfl HO2.out (some ⟨wr.heap.size, 0, none⟩) 1 1 [y] rfl HBN.out ?c1 ?c2 ?_)
          case c1 => omega
          case c2 => first | (simp; omega) | omega
          intro v' w' q1 q2
          have hb3 := hbel2.grown q2 (by first | (simp; omega) | omega) (fun i hi => (HO2.out.lt i hi).1)
          have Q1 := Lib.hid (show w'.ownsRow (w.heap.size + 1) 5 1 v' (wb * t + (j + 1)) (bytesV (beW wb (s.take t) ++ tell (dig wb x) (j + 1))) from by rw [HT.out]; exact q1)
          clear q1 q2 hdg
          go_wp2_with fail
          go_roundw
          case rel => exact ⟨j + 1, by omega, by rw [HNX.out], Q1.out, hb3⟩
          case measure => simp [intOf] <;> omega
        · obtain rfl : j = wb := by omega
          have hneg : ¬ (0 : Int) ≤ 8 * (j : Int) - 8 - 8 * (j : Int) := by omega
          have HN := Lib.hid (show wr.ownsRow (w.heap.size + 1) 5 1 u9 (j * (t + 1)) (bytesV (beW j (s.take (t + 1)))) from by rw [HSN.out, Nat.mul_succ]; exact HO.out)
          go_wp2_with fail
          go_roundw
          case rel => exact ⟨t + 1, by omega, by go_num, HN.out, hbel⟩
          case measure => simp [intOf] <;> omega
    · obtain rfl : t = 8 := by omega
      rw [show ((8 : Nat) : Int) = 8 from rfl]
      rw [List.take_of_length_le (by rw [H8.out]; omega)] at HO
      go_wp2_with fail
      go_ret
      refine ⟨_, rfl, ?_, hb0.trans (hbel.mono (by omega))⟩
      have h := HO.out
      rw [beW_length, H8.out, Nat.mul_comm]
      exact ⟨h.1, h.2.imp id (fun ⟨G, cap, cur, e1, e2, e3⟩ => ⟨G, cap, cur, e1, by omega, e3⟩)⟩
end Go.Proofs.YtnikhnpigopihaaDoor
