/- Numbers laid down in bytes: the document's function answers the plain list of PutM in new memory, or refuses. -/
import Derived.Test.YtgoackkmjfgneaaPut
namespace Go.Proofs.Ytgoackkmjfgneaa
open Go.RowKit
set_option linter.unusedVariables false

set_option maxHeartbeats 400000 in
theorem put14_arg (a : Option Addr) (n c : Nat) (p size : Int) (big : Bool) (v : Int) (w : World) (h : SizeBad size) :
    Calls Try.prog 14 #[.slice a n c, .int .i64 p, .int .i64 size, .bool big, .int .u64 v] w fun e w' => e = .returned (.tuple #[.slice none 0 0, .int .i64 1]) ∧ w = w' := by
  have H := Lib.hid h
  clear h
  go_enter Try.func14, Try.ntmps14
  go_wp2_with fail
  refine (get13_arg _ _ _ _ _ _ _ H.out).mono ?_
  rintro e w' ⟨rfl, rfl⟩
  go_wp2_with fail
  go_ret2
  exact ⟨rfl, rfl⟩
set_option maxHeartbeats 400000 in
theorem put14_end (a : Option Addr) (n c : Nat) (p : Int) (size : Nat) (big : Bool) (v : Int) (w : World) (hl : n ≤ 140737488355328) (hs : SizeOk size) (h : p < 0 ∨ (n : Int) < p + size) :
    Calls Try.prog 14 #[.slice a n c, .int .i64 p, .int .i64 (size : Nat), .bool big, .int .u64 v] w fun e w' => e = .returned (.tuple #[.slice none 0 0, .int .i64 11]) ∧ w = w' := by
  have H := Lib.hid h
  clear h
  go_enter Try.func14, Try.ntmps14
  go_wp2_with fail
  refine (get13_end _ _ _ _ _ _ _ (by omega) hs H.out).mono ?_
  rintro e w' ⟨rfl, rfl⟩
  go_wp2_with fail
  go_ret2
  exact ⟨rfl, rfl⟩

/-- a list, or a refusal, whatever was made on the way -/
def PutIs (res : Option (List Nat)) (n : Nat) (w : World) (e : Ending) (w' : World) : Prop := match res with | some l => ListIs n l w e w' | none => e = .returned (.tuple #[.slice none 0 0, .int .i64 12]) ∧ Below w.heap.size w w'

theorem putDn_succ (l : List Nat) (p size : Nat) (big : Bool) (v k : Nat) : putDn l p size big v (k + 1) = (putDn l p size big v k).set (placeN p size big (size - 1 - k)) (v / 256 ^ k % 256) := rfl
theorem place_dn_little (p size k : Nat) (hk : k < size) : placeN p size false (size - 1 - k) = p + k := by unfold placeN; simp; omega
theorem place_dn_big (p size k : Nat) (hk : k < size) : placeN p size true (size - 1 - k) = p + size - 1 - k := by unfold placeN; simp; omega
theorem div_step (v k : Nat) : v / 256 ^ (k + 1) = v / 256 ^ k / 256 := by rw [Nat.pow_succ, Nat.div_div_eq_div_mul]

set_option maxHeartbeats 800000 in
theorem put14_any (a : Option Addr) (n c p size : Nat) (big : Bool) (v : Nat) (l : List Nat) (res : Option (List Nat)) (w : World) (hb : BIn w a n c l) (hs : SizeOk size) (h : p + size ≤ n) (hv : v ≤ 18446744073709551615)
    (hr : (v < 256 ^ size ∧ res = some (putN l p size big v)) ∨ (256 ^ size ≤ v ∧ res = none)) :
    Calls Try.prog 14 #[.slice a n c, .int .i64 (p : Nat), .int .i64 (size : Nat), .bool big, .int .u64 (v : Nat)] w (PutIs res n w) := by
  have hsz := hs.le
  have hl := hb.2.2.2.1
  have HB := Lib.hid hb
  have HLL := Lib.hid hb.1.1
  have HLT := Lib.hid hb.1.2.2.1
  have HRES := Lib.hid hr
  clear hr hb
  go_enter Try.func14, Try.ntmps14
  go_wp2_with fail
  refine (get13_ok a n c p size big l w HB.out.1 (by omega) hs h).mono ?_
  rintro e w' ⟨rfl, rfl⟩
  go_wp2_with (at_builtin; refine wpList_append_bytes _ rfl (.tmp 28) (.tmp 29) rfl w.heap.size _ 0 [] rfl (zero_row w) a n c l rfl (HB.out.below ((Below.refl _ _).alloc (Nat.le_refl _) _)) (by omega) (by simp) ?_)
  intro v1 w1 hown hg1
  have hb1 : Below w.heap.size w w1 := ((Below.refl _ _).alloc (Nat.le_refl _) _).grown hg1 (by simp) (by simp [Value.ownBlock])
  obtain ⟨g, cc, rfl⟩ : ∃ g cc, v1 = .slice (some ⟨g, 0, none⟩) n cc := by
    rcases hown.2 with ⟨_, h0⟩ | ⟨g, cap, cur, h1, _⟩
    · omega
    · exact ⟨g, cap, h1⟩
  clear hg1
  go_wp2_with fail
  go_loopw [15, 4] (fun i x wr => ∃ k : Nat, k ≤ size ∧ i = .int .i64 k ∧ x = .int .u64 ((v / 256 ^ k : Nat) : Int) ∧ wr.ownsRow w.heap.size 5 1 (.slice (some ⟨g, 0, none⟩) n cc) n (bytesV (putDn l p size big v k)) ∧ Below w.heap.size w wr) (fun i _ _ => size - (intOf i).toNat)
  case atStart => exact ⟨0, Nat.zero_le _, rfl, by simp, hown, hb1⟩
  case round =>
    obtain ⟨k, hk, rfl, rfl, hown, hbel⟩ := hrel
    have HO := Lib.hid hown
    clear hown
    have hx : v / 256 ^ k ≤ 18446744073709551615 := Nat.le_trans (Nat.div_le_self _ _) hv
    by_cases hlt : k < size
    · have HST := Lib.hid (putDn_succ l p size big v k)
      have HDS := Lib.hid (div_step v k)
      generalize v / 256 ^ k = x at *
      have hd : (x : Int) % 256 = ((x % 256 : Nat) : Int) := by omega
      have hd2 : (x : Int).tmod 256 = ((x % 256 : Nat) : Int) := by rw [Int.tmod_eq_emod_of_nonneg (by omega)]; exact hd
      have hd3 : x % 256 < 256 := Nat.mod_lt _ (by decide)
      generalize x % 256 = y at *
      cases big
      · have hq := place_dn_little p size k hlt
        have HST2 := Lib.hid HST.out
        rw [hq] at HST2
        have hcell := (own_cells HO.out).2 (p + k) (by omega)
        rw [Nat.zero_add] at hcell
        have hfr := HO.out.frozenAt (p + k)
        have hst := (HO.out.stored (p + k) (.int .u8 (y : Nat))).1
        rw [bytesV_set, ← HST2.out] at hst
        have hbel2 : Below w.heap.size w (wr.setCell ⟨g, p + k, none⟩ (.int .u8 (y : Nat))) := hbel.setCell (p := ⟨g, p + k, none⟩) (HO.out.lt g rfl).1 _
        have HT := Lib.hid hst
        have HB2 := Lib.hid hbel2
        clear hq hst hbel2
        go_wp2_with fail
        go_roundw
        case rel => exact ⟨k + 1, by omega, by go_num, by rw [HDS.out]; go_num, HT.out, HB2.out⟩
        case measure => simp [intOf]; omega
      · have hq := place_dn_big p size k hlt
        have HST2 := Lib.hid HST.out
        rw [hq] at HST2
        have hcell := (own_cells HO.out).2 (p + size - 1 - k) (by omega)
        rw [Nat.zero_add] at hcell
        have hfr := HO.out.frozenAt (p + size - 1 - k)
        have hst := (HO.out.stored (p + size - 1 - k) (.int .u8 (y : Nat))).1
        rw [bytesV_set, ← HST2.out] at hst
        have hbel2 : Below w.heap.size w (wr.setCell ⟨g, p + size - 1 - k, none⟩ (.int .u8 (y : Nat))) := hbel.setCell (p := ⟨g, p + size - 1 - k, none⟩) (HO.out.lt g rfl).1 _
        have HT := Lib.hid hst
        have HB2 := Lib.hid hbel2
        clear hq hst hbel2
        go_wp2_with fail
        go_roundw
        case rel => exact ⟨k + 1, by omega, by go_num, by rw [HDS.out]; go_num, HT.out, HB2.out⟩
        case measure => simp [intOf]; omega
    · obtain rfl : k = size := by omega
      rcases HRES.out with ⟨h1, h2⟩ | ⟨h1, h2⟩
      · have hz : v / 256 ^ k = 0 := Nat.div_eq_of_lt h1
        have HE := Lib.hid (putDn_eq (l := l) (p := p) (size := k) big v (by have := HLL.out; omega))
        have HO2 := Lib.hid HO.out
        rw [HE.out] at HO2
        obtain ⟨a', c', hv', hin, _⟩ := own_in HO2.out (putTo_lt HLT.out p k big v k) hl
        have HI := Lib.hid hin
        have HRS := Lib.hid h2
        injection hv' with e1 e2 e3
        subst e1 e3
        rw [hz]
        clear hin e2 h1 h2 hx hz
        go_wp2_with fail
        go_ret2
        rw [HRS.out]
        exact ⟨_, _, rfl, HI.out, hbel⟩
      · have hz : 0 < v / 256 ^ k := Nat.div_pos h1 (Nat.pow_pos (by decide))
        have HRS := Lib.hid h2
        clear h1 h2
        generalize v / 256 ^ k = x at *
        have hd : (0 : Int) < (x : Int) := by omega
        go_wp2_with fail
        go_ret2
        rw [HRS.out]
        exact ⟨rfl, hbel⟩
end Go.Proofs.Ytgoackkmjfgneaa
