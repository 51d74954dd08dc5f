/- Digits read as bytes: the project's function and the document's give the plain bytes of UnhexM in new memory, or refuse. -/
import Derived.Test.YtgoackkmjfgneaaUnhexM
import Derived.Test.YtgoackkmjfgneaaCut
namespace Go.Proofs.Ytgoackkmjfgneaa
open Go.RowKit
set_option linter.unusedVariables false

theorem ret2b {k : IntKind} {a b : Int} {t : Bool} (h : a = b) : Ending.returned (.tuple #[.int k a, .bool t]) = .returned (.tuple #[.int k b, .bool t]) := by rw [h]
theorem ret1 {k : IntKind} {a b : Int} (h : a = b) : Ending.returned (.int k a) = .returned (.int k b) := by rw [h]
theorem dig41_yes (c d : Nat) (w : World) (hc : c < 256) (h : unhexD c = some d) :
    Calls Try.prog 41 #[.int .u8 (c : Nat)] w fun e w' => e = .returned (.tuple #[.int .u8 (d : Nat), .bool true]) ∧ w = w' := by
  unfold unhexD at h; split at h
  · rename_i hr
    injection h with h; subst h
    go_enter Try.func41, Try.ntmps41
    go_wp2
    go_ret2
    exact ⟨ret2b (by omega), rfl⟩
  · split at h
    · rename_i hn hr
      injection h with h; subst h
      go_enter Try.func41, Try.ntmps41
      go_wp2
      go_ret2
      exact ⟨ret2b (by omega), rfl⟩
    · cases h
theorem dig41_no (c : Nat) (w : World) (hc : c < 256) (h : unhexD c = none) :
    Calls Try.prog 41 #[.int .u8 (c : Nat)] w fun e w' => e = .returned (.tuple #[.int .u8 0, .bool false]) ∧ w = w' := by
  unfold unhexD at h; split at h
  · cases h
  · split at h
    · cases h
    · rename_i h1 h2
      by_cases a1 : 48 ≤ c
      · have d1 : decide ((48 : Int) ≤ (c : Int)) = true := by simp; omega
        have d2 : decide ((c : Int) ≤ 57) = false := by simp; omega
        by_cases a2 : 97 ≤ c
        · have d3 : decide ((97 : Int) ≤ (c : Int)) = true := by simp; omega
          have d4 : decide ((c : Int) ≤ 102) = false := by simp; omega
          clear h1 h2
          go_enter Try.func41, Try.ntmps41
          go_wp2
          go_ret2
          exact ⟨rfl, rfl⟩
        · have d3 : decide ((97 : Int) ≤ (c : Int)) = false := by simp; omega
          clear h1 h2
          go_enter Try.func41, Try.ntmps41
          go_wp2
          go_ret2
          exact ⟨rfl, rfl⟩
      · have d1 : decide ((48 : Int) ≤ (c : Int)) = false := by simp; omega
        have d3 : decide ((97 : Int) ≤ (c : Int)) = false := by simp; omega
        clear h1 h2
        go_enter Try.func41, Try.ntmps41
        go_wp2
        go_ret2
        exact ⟨rfl, rfl⟩
theorem dig42_yes (c d : Nat) (w : World) (hc : c < 256) (h : unhexD c = some d) :
    Calls Try.prog 42 #[.int .u8 (c : Nat)] w fun e w' => e = .returned (.int .i64 (d : Nat)) ∧ w = w' := by
  unfold unhexD at h; split at h
  · rename_i hr
    injection h with h; subst h
    go_enter Try.func42, Try.ntmps42
    go_wp2
    go_ret
    exact ⟨ret1 (by omega), rfl⟩
  · split at h
    · rename_i hn hr
      injection h with h; subst h
      go_enter Try.func42, Try.ntmps42
      go_wp2
      go_ret
      exact ⟨ret1 (by omega), rfl⟩
    · cases h
theorem dig42_no (c : Nat) (w : World) (hc : c < 256) (h : unhexD c = none) :
    Calls Try.prog 42 #[.int .u8 (c : Nat)] w fun e w' => e = .returned (.int .i64 16) ∧ w = w' := by
  unfold unhexD at h; split at h
  · cases h
  · split at h
    · cases h
    · rename_i h1 h2
      by_cases a1 : 48 ≤ c
      · have d1 : decide ((48 : Int) ≤ (c : Int)) = true := by simp; omega
        have d2 : decide ((c : Int) ≤ 57) = false := by simp; omega
        by_cases a2 : 97 ≤ c
        · have d3 : decide ((97 : Int) ≤ (c : Int)) = true := by simp; omega
          have d4 : decide ((c : Int) ≤ 102) = false := by simp; omega
          clear h1 h2
          go_enter Try.func42, Try.ntmps42
          go_wp2
          go_ret
          exact ⟨rfl, rfl⟩
        · have d3 : decide ((97 : Int) ≤ (c : Int)) = false := by simp; omega
          clear h1 h2
          go_enter Try.func42, Try.ntmps42
          go_wp2
          go_ret
          exact ⟨rfl, rfl⟩
      · have d1 : decide ((48 : Int) ≤ (c : Int)) = false := by simp; omega
        have d3 : decide ((97 : Int) ≤ (c : Int)) = false := by simp; omega
        clear h1 h2
        go_enter Try.func42, Try.ntmps42
        go_wp2
        go_ret
        exact ⟨rfl, rfl⟩

/-- a text's bytes -/
def strL (s : ByteArray) : List Nat := s.data.toList.map UInt8.toNat
theorem strL_length (s : ByteArray) : (strL s).length = s.size := by simp [strL]
theorem strL_at (s : ByteArray) (k : Nat) (h : k < s.size) : (s[k]'h).toNat = (strL s).getD k 0 := by
  have h' : k < s.data.toList.length := h
  simp only [strL, List.getD_eq_getElem?_getD, List.getElem?_map, List.getElem?_eq_getElem h', Option.map_some, Option.getD_some]
  rfl
theorem strL_lt (s : ByteArray) (k : Nat) : (strL s).getD k 0 < 256 := getD_lt (fun x hx => by obtain ⟨u, _, rfl⟩ := List.mem_map.1 hx; exact u.toNat_lt) k
theorem strL_strV {l : List Nat} (h : ∀ x ∈ l, x < 256) : strL (strV l) = l := by
  unfold strL strV
  rw [strOfNums_data, List.map_map, List.map_map]
  conv => rhs; rw [← List.map_id l]
  refine List.map_congr_left fun x hx => ?_
  have := h x hx
  simp
  omega
theorem strV_strL (s : ByteArray) : strV (strL s) = s := by
  apply ByteArray.ext
  apply Array.ext'
  unfold strL strV
  rw [strOfNums_data, List.map_map, List.map_map]
  conv => rhs; rw [← List.map_id s.data.toList]
  refine List.map_congr_left fun x hx => ?_
  simp

/-- a refusal, whatever was made on the way -/
def NotForm (w : World) (e : Ending) (w' : World) : Prop := e = .returned (.tuple #[.slice none 0 0, .int .i64 13]) ∧ Below w.heap.size w w'

set_option maxHeartbeats 400000 in
theorem unhex31_odd (s : ByteArray) (w : World) (hs : s.size ≤ 281474976710656) (h : s.size % 2 = 1) : Calls Try.prog 31 #[.string s] w (NotForm w) := by
  have d : ((s.size : Int) % 2 != 0) = true := by rw [bne_iff_ne]; omega
  go_enter Try.func31, Try.ntmps31
  go_wp2
  go_ret2
  exact ⟨rfl, Below.refl _ _⟩

theorem one_new (w : World) (a : Value) (t : TypeId) : ∀ j u, [a][j]? = some u → (w.alloc (.cells #[a] t)).cell? ((⟨w.heap.size, 0, none⟩ : Addr).add j) = some u := by
  intro j u hj
  match j, hj with
  | 0, hj => simp at hj; subst hj; simp [Addr.add]
  | j + 1, hj => simp at hj
theorem bytesV_snoc (l : List Nat) (z : Nat) : bytesV l ++ [.int .u8 (z : Nat)] = bytesV (l ++ [z]) := by simp [bytesV]
/-- so many bytes in new memory, with OK -/
def ListIs (n : Nat) (l : List Nat) (w : World) (e : Ending) (w' : World) : Prop := ∃ a c, e = .returned (.tuple #[.slice a n c, .int .i64 0]) ∧ BIn w' a n c l ∧ Below w.heap.size w w'
def UnhexIs (res : Option (List Nat)) (m : Nat) (w : World) (e : Ending) (w' : World) : Prop := match res with | some l => ListIs m l w e w' | none => NotForm w e w'

set_option maxHeartbeats 800000 in
theorem unhex31_even (s : ByteArray) (m : Nat) (w : World) (hs : s.size = 2 * m) (hm : m ≤ 140737488355328) :
    Calls Try.prog 31 #[.string s] w (UnhexIs (unhexTo (strL s) m) m w) := by
  have d : ((s.size : Int) % 2 != 0) = false := by rw [bne_eq_false_iff_eq]; omega
  have d2 : (s.size : Int) / 2 = (m : Int) := by omega
  obtain ⟨i0, hi, hz0, hz1, hz2⟩ := info_parts info5
  have hs2 : s.size ≤ 281474976710656 := by omega
  have HS := Lib.hid hs
  clear hs
  go_enter Try.func31, Try.ntmps31
  go_wp2_with (at_make; refine wpList_make_own _ rfl _ _ 22 rfl w.heap.size 5 i0 (.int .u8 0) 1 Try.underlying22 hi hz0 hz1 _ _ _ m rfl rfl (by omega) (by rw [hz2]; omega) (by unfold maxLen; omega) (Nat.le_refl _) ?_)
  intro w1 hown hgrow
  go_wp2_with fail
  go_loopw [4, 5] (fun v i wr => ∃ (k : Nat) (L : List Nat), k ≤ m ∧ i = .int .i64 ((2 * k : Nat) : Int) ∧ v = .slice (some ⟨w.heap.size, 0, none⟩) k m ∧ wr.ownsRow w.heap.size 5 1 v k (bytesV L) ∧ unhexTo (strL s) k = some L ∧ Below w.heap.size w wr) (fun _ i _ => s.size - (intOf i).toNat)
  case atStart => exact ⟨0, [], Nat.zero_le _, rfl, rfl, hown, rfl, (Below.refl _ _).grown hgrow (Nat.le_refl _) (by simp)⟩
  case round =>
    obtain ⟨k, L, hk, rfl, rfl, hown, hu, hbel⟩ := hrel
    have HU := Lib.hid hu
    clear hu hgrow
    by_cases hlt : k < m
    · have l0 : 2 * k < s.size := by have := HS.out; omega
      have l1 : 2 * k + 1 < s.size := by have := HS.out; omega
      have c0 := strL_at s (2 * k) l0
      have c1 := strL_at s (2 * k + 1) l1
      have b0 := strL_lt s (2 * k)
      have b1 := strL_lt s (2 * k + 1)
      have HNA := Lib.hid (@unhexTo_none_a (strL s) k)
      have HNB := Lib.hid (@unhexTo_none_b (strL s) k)
      have HSO := Lib.hid (fun a b => @unhexTo_some (strL s) L k a b HU.out)
      generalize (strL s).getD (2 * k) 0 = x at *
      generalize (strL s).getD (2 * k + 1) 0 = y at *
      cases hx : unhexD x with
      | none =>
        have HX := Lib.hid hx
        have HN := Lib.hid (show unhexTo (strL s) m = none by have := unhexTo_more (HNA.out hx) (m - (k + 1)); rwa [show k + 1 + (m - (k + 1)) = m by omega] at this)
        clear hx
        cases hy : unhexD y with
        | none =>
          have HY := Lib.hid hy
          clear hy
          go_wp2_with fail
          refine (dig41_no x _ b0 HX.out).mono ?_
          rintro e w' ⟨rfl, rfl⟩
          go_wp2_with fail
          refine (dig41_no y _ b1 HY.out).mono ?_
          rintro e w' ⟨rfl, rfl⟩
          go_wp2_with fail
          go_ret2
          rw [HN.out]; exact ⟨rfl, hbel⟩
        | some b =>
          have HY := Lib.hid hy
          clear hy
          go_wp2_with fail
          refine (dig41_no x _ b0 HX.out).mono ?_
          rintro e w' ⟨rfl, rfl⟩
          go_wp2_with fail
          refine (dig41_yes y b _ b1 HY.out).mono ?_
          rintro e w' ⟨rfl, rfl⟩
          go_wp2_with fail
          go_ret2
          rw [HN.out]; exact ⟨rfl, hbel⟩
      | some a =>
        have HX := Lib.hid hx
        clear hx
        cases hy : unhexD y with
        | none =>
          have HY := Lib.hid hy
          have HN := Lib.hid (show unhexTo (strL s) m = none by have := unhexTo_more (HNB.out hy) (m - (k + 1)); rwa [show k + 1 + (m - (k + 1)) = m by omega] at this)
          clear hy
          go_wp2_with fail
          refine (dig41_yes x a _ b0 HX.out).mono ?_
          rintro e w' ⟨rfl, rfl⟩
          go_wp2_with fail
          refine (dig41_no y _ b1 HY.out).mono ?_
          rintro e w' ⟨rfl, rfl⟩
          go_wp2_with fail
          go_ret2
          rw [HN.out]; exact ⟨rfl, hbel⟩
        | some b =>
          have HY := Lib.hid hy
          have ha := unhexD_lt HX.out
          have hb := unhexD_lt hy
          have hso := HSO.out a b HX.out hy
          clear hy
          have hor := bits_or_digits a b ha hb
          generalize 16 * a + b = z at *
          have HSZ := Lib.hid hso
          clear hso
          go_wp2_with fail
          refine (dig41_yes x a _ b0 HX.out).mono ?_
          rintro e w' ⟨rfl, rfl⟩
          go_wp2_with fail
          refine (dig41_yes y b _ b1 HY.out).mono ?_
          rintro e w' ⟨rfl, rfl⟩
          go_wp2_with (at_builtin; refine wpList_append_fits _ rfl (.tmp 45) (.tmp 50) 22 rfl w.heap.size 5 i0 1 Try.underlying22 hi hz1 w.heap.size k m _ rfl (hown.alloc _) ⟨wr.heap.size, 0, none⟩ 1 1 [.int .u8 (z : Nat)] rfl rfl (one_new _ _ _) (by simp [Value.oneCell']) (by omega) ?_)
          intro w2 hown2 hgrow2
          have hbel2 : Below w.heap.size w w2 := (hbel.alloc hbel.size _).grown hgrow2 (by have := hbel.size; simp; omega) (by intro k hk; simp at hk; omega)
          rw [bytesV_snoc] at hown2
          clear hor hown hgrow2 c0 c1
          go_wp2
          go_roundw
          case rel => exact ⟨k + 1, L ++ [z], by omega, by go_num, rfl, hown2, HSZ.out, hbel2⟩
          case measure => simp [intOf]; omega
    · obtain rfl : k = m := by omega
      have hge : ¬ (2 * k < s.size) := by have := HS.out; omega
      have hlen := unhexTo_length HU.out
      have HI := Lib.hid (own_in hown hlen.2 hm)
      go_wp2
      go_ret2
      rw [HU.out]
      obtain ⟨a, c, hv, hin, _⟩ := HI.out
      refine ⟨a, c, ?_, hin, hbel⟩
      rw [← hv]
      rfl
end Go.Proofs.Ytgoackkmjfgneaa
