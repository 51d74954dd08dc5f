/- Numbers and words told as bytes behind an own list. Condition: the list may grow so far. -/
import Derived.Test.YtnikhnpigopihaaDoorShared
import Derived.Test.YtnikhnpigopihaaDoorSmall
namespace Go.Proofs.YtnikhnpigopihaaDoor
open Go.RowKit
set_option linter.unusedVariables false
/-- what a call answers that gives an own list of these bytes; below 'base' nothing has turned -/
def AppIs (base : Nat) (l : List Nat) (w : World) (e : Ending) (w' : World) : Prop := ∃ v, e = .returned v ∧ w'.ownsRow base 5 1 v l.length (bytesV l) ∧ Below base w w'
/-- the byte at place k of a number's -/
def dig (size x k : Nat) : Nat := x / 2 ^ (8 * (size - 1 - k)) % 256
def beB (size x : Nat) : List Nat := tell (dig size x) size
theorem dig_lt (size x k : Nat) : dig size x k < 256 := Nat.mod_lt _ (by decide)
theorem bin_new (w : World) (y : Nat) (hy : y < 256) : BIn (w.alloc (.cells #[.int .u8 (y : Nat)] 5)) (some ⟨w.heap.size, 0, none⟩) 1 1 [y] := by
  refine ⟨⟨rfl, by unfold maxLen; omega, by simpa using hy, .inr ⟨w.heap.size, 0, rfl, ?_⟩⟩, Nat.le_refl _, by unfold maxLen; omega, by omega, fun h => by cases h⟩
  intro i hi
  obtain rfl : i = 0 := by omega
  simp
set_option maxHeartbeats 800000 in
theorem appendNumber_any (base : Nat) (v : Value) (xs : List Nat) (x size : Nat) (w : World) (hown : w.ownsRow base 5 1 v xs.length (bytesV xs)) (hbase : base ≤ w.heap.size) (hn : xs.length + 8 ≤ 140737488355328) (hs : size ≤ 8) (hx : x < 2 ^ 64) :
    Calls Tryd.prog 43 #[v, .int .u64 (x : Nat), .int .i64 (size : Nat)] w (AppIs base (xs ++ beB size x) w) := by
  have HO := Lib.hid hown
  clear hown
  go_enter Tryd.func43, Tryd.ntmps43
  go_wp2_with fail
  go_loopw [0, 9] (fun u i wr => ∃ k : Nat, k ≤ size ∧ i = .int .i64 k ∧ wr.ownsRow base 5 1 u (xs.length + k) (bytesV (xs ++ tell (dig size x) k)) ∧ Below base w wr) (fun _ i _ => size - (intOf i).toNat)
  case atStart => exact ⟨0, Nat.zero_le _, rfl, by simpa [tell] using HO.out, Below.refl _ _⟩
  case round =>
    clear HO
    obtain ⟨k, hk, rfl, hown, hbel⟩ := hrel
    have HO := Lib.hid hown
    clear hown
    by_cases hlt : k < size
    · have hd : (x : Int) / 2 ^ (8 * (size - 1 - k)) % 256 = ((dig size x k : Nat) : Int) := by
        unfold dig; rw [cast_pow, ← Int.natCast_ediv]; rfl
      have hdl := dig_lt size x k
      have HT := Lib.hid (tell_succ (dig size x) k)
      have e5 : min (8 * (size - 1 - k)) 64 = 8 * (size - 1 - k) := by omega
      generalize dig size x k = y at *
      have hsz := hbel.size
      have hbel2 := hbel.alloc (show base ≤ wr.heap.size by omega) (.cells #[.int .u8 (y : Nat)] 5)
      have hown2 := HO.out.alloc (.cells #[.int .u8 (y : Nat)] 5)
      have HBN := Lib.hid (bin_new wr y hdl)
      have HO2 := Lib.hid hown2
      clear hown2
      go_wp2_with (at_builtin; refine wpList_append_bytes _ rfl _ _ rfl base u0 (xs.length + k) (xs ++ tell (dig size x) k) rfl HO2.out (some ⟨wr.heap.size, 0, none⟩) 1 1 [y] rfl HBN.out ?c1 ?c2 ?_)
      case c1 => omega
      case c2 => simp; omega
      intro v' w' h1 h2
      have hb3 := hbel2.grown h2 (by simp; omega) (fun j hj => (HO2.out.lt j hj).1)
      rw [← HT.out, Nat.add_assoc] at h1
      go_wp2_with fail
      go_roundw
      case rel => exact ⟨k + 1, by omega, by go_num, h1, hb3⟩
      case measure => simp [intOf]; omega
    · obtain rfl : k = size := by omega
      go_wp2_with fail
      go_ret
      exact ⟨_, rfl, by have := HO.out; simpa [beB, tell_length] using this, hbel⟩
def beW (size : Nat) (ws : List Nat) : List Nat := (ws.map (beB size)).flatten
theorem beB_length (size x : Nat) : (beB size x).length = size := tell_length _ _
theorem beB_lt (size x : Nat) : ∀ y ∈ beB size x, y < 256 := tell_lt _ _ (dig_lt size x) _
theorem beW_length (size : Nat) (ws : List Nat) : (beW size ws).length = ws.length * size := by
  unfold beW; induction ws with
  | nil => simp
  | cons x l ih => rw [List.map_cons, List.flatten_cons, List.length_append, ih, beB_length, List.length_cons, Nat.add_mul]; omega
theorem beW_lt (size : Nat) (ws : List Nat) : ∀ y ∈ beW size ws, y < 256 := by
  intro y hy; obtain ⟨l, hl, hy⟩ := List.mem_flatten.1 hy; obtain ⟨x, _, rfl⟩ := List.mem_map.1 hl; exact beB_lt _ _ y hy
theorem beW_snoc (size : Nat) (ws : List Nat) (k : Nat) (h : k < ws.length) : beW size (ws.take (k + 1)) = beW size (ws.take k) ++ beB size (ws.getD k 0) := by
  rw [take_snoc ws k h]; simp [beW]
set_option maxHeartbeats 800000 in
theorem appendWords_any (base : Nat) (v : Value) (xs ws : List Nat) (size : Nat) (w : World) (hown : w.ownsRow base 5 1 v xs.length (bytesV xs)) (hbase : base ≤ w.heap.size) (hn : xs.length + 72 ≤ 140737488355328) (hs : size ≤ 8) (h8 : ws.length = 8) (hx : ∀ x ∈ ws, x < 2 ^ 64) :
    Calls Tryd.prog 44 #[v, .agg (natsV .u64 ws).toArray, .int .i64 (size : Nat)] w (AppIs base (xs ++ beW size ws) w) := by
  have HO := Lib.hid (hown.alloc (.cells (natsV .u64 ws).toArray 66))
  have HX := Lib.hid hx
  have H8 := Lib.hid h8
  clear hown hx h8
  have HB := Lib.hid (Blk.new w 66 (natsV .u64 ws))
  go_enter Tryd.func44, Tryd.ntmps44
  go_wp2_with (refine wpList_load_row rfl 66 (.tmp 4) rfl w.heap.size rfl 66 (natsV .u64 ws).toArray (0, 0) _ HB.out Tryd.underlying66 rfl (by rw [info66, size_nats, H8.out]) ?_)
  clear HB
  go_loopw [0, 10] (fun u i wr => ∃ k : Nat, k ≤ 8 ∧ i = .int .i64 k ∧ wr.ownsRow base 5 1 u (xs ++ beW size (ws.take k)).length (bytesV (xs ++ beW size (ws.take k))) ∧ Below base w wr) (fun _ i _ => 8 - (intOf i).toNat)
  case atStart => exact ⟨0, Nat.zero_le _, rfl, by simpa [beW] using HO.out, (Below.refl _ _).alloc hbase _⟩
  case round =>
    clear HO
    obtain ⟨k, hk, rfl, hown, hbel⟩ := hrel
    by_cases hlt : k < 8
    · have hix := fun (w0 : World) => index_nats (P := Tryd.prog) w0 66 48 8 .u64 ws k Tryd.underlying66 Tryd.underlying48 info48 hlt H8.out
      have hxl := getD_lt' HX.out (by decide) k
      have hlen : (xs ++ beW size (ws.take k)).length + 8 ≤ 140737488355328 := by
        rw [List.length_append, beW_length, List.length_take, H8.out]
        have : min k 8 * size ≤ 8 * 8 := Nat.mul_le_mul (by omega) hs
        omega
      have hsz := hbel.size
      have HC := Lib.hid (appendNumber_any base u0 _ (ws.getD k 0) size wr hown (by omega) hlen hs hxl)
      rw [List.append_assoc, ← beW_snoc size ws k (by rw [H8.out]; exact hlt)] at HC
      clear hlen hxl hown
      generalize ws.getD k 0 = x at *
      go_wp2_with fail
      refine HC.out.mono ?_
      rintro e w' ⟨v', rfl, ho, hb⟩
      have HO := Lib.hid ho
      clear ho
      go_wp2_with fail
      go_roundw
      case rel => exact ⟨k + 1, by omega, by go_num, HO.out, hbel.trans hb⟩
      case measure => simp [intOf]; omega
    · obtain rfl : k = 8 := by omega
      rw [List.take_of_length_le (by rw [H8.out]; omega)] at hown
      have HO := Lib.hid hown
      clear hown
      go_wp2_with fail
      go_ret
      exact ⟨_, rfl, HO.out, hbel⟩
end Go.Proofs.YtnikhnpigopihaaDoor
