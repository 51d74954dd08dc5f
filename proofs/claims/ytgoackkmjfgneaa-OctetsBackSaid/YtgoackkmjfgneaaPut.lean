/- Numbers laid down in bytes: the project's function answers the plain list of PutM in new memory, or refuses. -/
import Derived.Test.YtgoackkmjfgneaaPutM
import Derived.Test.YtgoackkmjfgneaaNum
import Derived.Test.YtgoackkmjfgneaaUnhex
import Derived.Test.YtgoackkmjfgneaaGet
namespace Go.Proofs.Ytgoackkmjfgneaa
open Go.RowKit
set_option linter.unusedVariables false

set_option maxHeartbeats 400000 in
theorem put12_arg (a : Option Addr) (n c : Nat) (p size : Int) (big : Bool) (v : Int) (w : World) (h : SizeBad size) :
    Calls Try.prog 12 #[.slice a n c, .int .i64 p, .int .i64 size, .bool big, .int .u64 v] w fun e w' => e = .returned (.tuple #[.slice none 0 0, .int .i64 1]) ∧ w = w' := by
  have H := Lib.hid h
  clear h
  go_enter Try.func12, Try.ntmps12
  go_wp2_with fail
  refine (chk_arg _ _ _ _ _ _ H.out).mono ?_
  rintro e w' ⟨rfl, rfl⟩
  go_wp2_with fail
  go_ret2
  exact ⟨rfl, rfl⟩
set_option maxHeartbeats 400000 in
theorem put12_end (a : Option Addr) (n c : Nat) (p : Int) (size : Nat) (big : Bool) (v : Int) (w : World) (hl : n ≤ 140737488355328) (hs : SizeOk size) (h : p < 0 ∨ (n : Int) < p + size) :
    Calls Try.prog 12 #[.slice a n c, .int .i64 p, .int .i64 (size : Nat), .bool big, .int .u64 v] w fun e w' => e = .returned (.tuple #[.slice none 0 0, .int .i64 11]) ∧ w = w' := by
  have H := Lib.hid h
  clear h
  go_enter Try.func12, Try.ntmps12
  go_wp2_with fail
  refine (chk_end _ _ _ _ _ _ (by omega) hs H.out).mono ?_
  rintro e w' ⟨rfl, rfl⟩
  go_wp2_with fail
  go_ret2
  exact ⟨rfl, rfl⟩
theorem pow256 (size : Nat) : 256 ^ size = 2 ^ (8 * size) := by rw [Nat.pow_mul]
set_option maxHeartbeats 400000 in
theorem put12_range (a : Option Addr) (n c p size : Nat) (big : Bool) (v : Nat) (w : World) (hl : n ≤ 140737488355328) (hs : SizeOk size) (h : p + size ≤ n) (hv : v ≤ 18446744073709551615) (hr : 256 ^ size ≤ v) :
    Calls Try.prog 12 #[.slice a n c, .int .i64 (p : Nat), .int .i64 (size : Nat), .bool big, .int .u64 (v : Nat)] w fun e w' => e = .returned (.tuple #[.slice none 0 0, .int .i64 12]) ∧ w = w' := by
  have hsz := hs.le
  have HR := Lib.hid (hasRoom_no v (8 * size) (by omega) w (by rw [← pow256]; exact hr) hv)
  clear hr
  go_enter Try.func12, Try.ntmps12
  go_wp2_with fail
  refine (chk_ok _ _ _ _ _ _ (by omega) hs h).mono ?_
  rintro e w' ⟨rfl, rfl⟩
  go_wp2_with fail
  refine HR.out.mono ?_
  rintro e w' ⟨rfl, rfl⟩
  go_wp2_with fail
  go_ret2
  exact ⟨rfl, rfl⟩
theorem putTo_succ (l : List Nat) (p size : Nat) (big : Bool) (v k : Nat) : putTo l p size big v (k + 1) = (putTo l p size big v k).set (placeN p size big k) (digN v size k) := rfl
theorem bytesV_set (l : List Nat) (i y : Nat) : (bytesV l).set i (.int .u8 (y : Nat)) = bytesV (l.set i y) := by simp [bytesV, List.map_set]
/-- the byte that a shift leaves -/
theorem dig_shift (v size k : Nat) : IntKind.u8.wrap ((v : Int) / 2 ^ (8 * (size - 1 - k))) = (digN v size k : Int) := by
  unfold digN
  rw [pow256, IntKind.wrap_u8', cast_pow, ← Int.natCast_ediv]
  omega

/-- so many bytes in a row of the call's own, with OK -/
def ListOwn (n : Nat) (l : List Nat) (w : World) (e : Ending) (w' : World) : Prop := ∃ g c, e = .returned (.tuple #[.slice (some ⟨g, 0, none⟩) n c, .int .i64 0]) ∧ w'.ownsRow w.heap.size 5 1 (.slice (some ⟨g, 0, none⟩) n c) n (bytesV l) ∧ Below w.heap.size w w'

set_option maxHeartbeats 800000 in
theorem put12_ok (a : Option Addr) (n c p size : Nat) (big : Bool) (v : Nat) (l : List Nat) (w : World) (hb : BIn w a n c l) (hs : SizeOk size) (h : p + size ≤ n) (hv : v ≤ 18446744073709551615) (hr : v < 256 ^ size) :
    Calls Try.prog 12 #[.slice a n c, .int .i64 (p : Nat), .int .i64 (size : Nat), .bool big, .int .u64 (v : Nat)] w (ListOwn n (putN l p size big v) w) := by
  have hsz := hs.le
  have hl := hb.2.2.2.1
  have HR := Lib.hid (hasRoom_yes v (8 * size) (by omega) w (by rw [← pow256]; exact hr) hv)
  have HB := Lib.hid hb
  have HLL := Lib.hid hb.1.1
  have HLT := Lib.hid hb.1.2.2.1
  clear hr hb
  go_enter Try.func12, Try.ntmps12
  go_wp2_with fail
  refine (chk_ok _ _ _ _ _ _ (by omega) hs h).mono ?_
  rintro e w' ⟨rfl, rfl⟩
  go_wp2_with fail
  refine HR.out.mono ?_
  rintro e w' ⟨rfl, rfl⟩
  go_wp2_with fail
  refine (clone37 a n c l w HB.out).mono ?_
  rintro e w1 ⟨v1, rfl, hown, hb1⟩
  rw [HLL.out] at hown
  obtain ⟨g, cc, rfl⟩ : ∃ g cc, v1 = .slice (some ⟨g, 0, none⟩) n cc := by
    rcases hown.2 with ⟨_, h0⟩ | ⟨g, cap, cur, h1, _⟩
    · omega
    · exact ⟨g, cap, h1⟩
  go_wp2_with fail
  go_loopw [30] (fun i wr => ∃ k : Nat, k ≤ size ∧ i = .int .i64 k ∧ wr.ownsRow w.heap.size 5 1 (.slice (some ⟨g, 0, none⟩) n cc) n (bytesV (putTo l p size big v k)) ∧ Below w.heap.size w wr) (fun i _ => size - (intOf i).toNat)
  case atStart => exact ⟨0, Nat.zero_le _, rfl, hown, hb1⟩
  case round =>
    obtain ⟨k, hk, rfl, hown, hbel⟩ := hrel
    have HO := Lib.hid hown
    clear hown
    by_cases hlt : k < size
    · have hpl := place_in (p := p) big hlt
      have HP := Lib.hid (fun w => place35 p size k big w (by omega) hsz.2 hlt)
      have HST := Lib.hid (putTo_succ l p size big v k)
      obtain ⟨E, hE⟩ : ∃ E, E = 8 * (size - 1 - k) := ⟨_, rfl⟩
      have hd := dig_shift v size k
      rw [← hE] at hd
      have hdl := digN_lt v size k
      generalize placeN p size big k = q at *
      generalize digN v size k = y at *
      have hcell := (own_cells HO.out).2 q (by omega)
      rw [Nat.zero_add] at hcell
      have hfr := HO.out.frozenAt q
      have hqI : (q : Int) < (n : Int) := by omega
      have e1 : IntKind.i64.wrap ((size : Int) - 1) = ((size - 1 : Nat) : Int) := by rw [IntWalk.i64_in _ (by omega)]; omega
      have e2 : IntKind.i64.wrap (((size - 1 : Nat) : Int) - (k : Int)) = ((size - 1 - k : Nat) : Int) := by rw [IntWalk.i64_in _ (by omega)]; omega
      have e3 : IntKind.i64.wrap (8 * ((size - 1 - k : Nat) : Int)) = (E : Int) := by rw [IntWalk.i64_in _ (by omega)]; omega
      have e4 : E ≤ 63 := by omega
      have e5 : min E 64 = E := by omega
      generalize size - 1 - k = m2 at *
      generalize size - 1 = m1 at *
      clear hE hpl
      go_wp2_with fail
      go_region_with (go_at_call 35; refine (HP.out _).mono ?_; rintro e w' ⟨rfl, rfl⟩)
      have hst := (HO.out.stored q (.int .u8 (y : Nat))).1
      rw [bytesV_set, ← HST.out] at hst
      have hbel2 : Below w.heap.size w (wr.setCell ⟨g, q, none⟩ (.int .u8 (y : Nat))).drew := (hbel.setCell (p := ⟨g, q, none⟩) (HO.out.lt g rfl).1 _).drew
      clear hcell hfr hd e1 e2 e3 e5
      go_wp2_with fail
      go_roundw
      case rel => exact ⟨k + 1, by omega, by go_num, hst, hbel2⟩
      case measure => simp [intOf]; omega
    · obtain rfl : k = size := by omega
      go_wp2_with fail
      go_ret2
      exact ⟨g, cc, rfl, HO.out, hbel⟩
end Go.Proofs.Ytgoackkmjfgneaa
