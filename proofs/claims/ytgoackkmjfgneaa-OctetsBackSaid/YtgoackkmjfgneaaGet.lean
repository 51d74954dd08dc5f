/- Reading a number out of bytes: the project's function and the document's give the plain number of GetM, or refuse. -/
import Derived.Test.YtgoackkmjfgneaaCrc
import Derived.Test.YtgoackkmjfgneaaGetM
namespace Go.Proofs.Ytgoackkmjfgneaa
open Go.RowKit
set_option linter.unusedVariables false

/-- no size that a number may have -/
def SizeBad (size : Int) : Prop := size ≠ 1 ∧ size ≠ 2 ∧ size ≠ 4 ∧ size ≠ 8
theorem ne_bool {a b : Int} (h : a ≠ b) : (a != b) = true := by simpa using h

set_option maxHeartbeats 400000 in
theorem chk_arg (a : Option Addr) (len cap : Nat) (p size : Int) (w : World) (h : SizeBad size) :
    Calls Try.prog 34 #[.slice a len cap, .int .i64 p, .int .i64 size] w fun e w' => e = .returned (.int .i64 1) ∧ w = w' := by
  obtain ⟨h1, h2, h3, h4⟩ := h
  have e1 := ne_bool h1; have e2 := ne_bool h2; have e3 := ne_bool h3; have e4 := ne_bool h4
  clear h1 h2 h3 h4
  go_enter Try.func34, Try.ntmps34
  go_wp2
  go_ret
  exact ⟨rfl, rfl⟩
set_option maxHeartbeats 400000 in
theorem chk_end (a : Option Addr) (len cap : Nat) (p : Int) (size : Nat) (w : World) (hl : len ≤ 9223372036854775807) (hs : SizeOk size) (h : p < 0 ∨ (len : Int) < p + size) :
    Calls Try.prog 34 #[.slice a len cap, .int .i64 p, .int .i64 (size : Nat)] w fun e w' => e = .returned (.int .i64 11) ∧ w = w' := by
  unfold SizeOk at hs
  by_cases hp : p < 0
  · rcases hs with rfl | rfl | rfl | rfl
    all_goals
      go_enter Try.func34, Try.ntmps34
      go_wp2
      go_ret
      exact ⟨rfl, rfl⟩
  · have hd : decide (p < 0) = false := by simpa using hp
    rcases hs with rfl | rfl | rfl | rfl
    · have h2 : decide ((len : Int) - 1 < p) = true := by simp; omega
      go_enter Try.func34, Try.ntmps34
      go_wp2
      go_ret
      exact ⟨rfl, rfl⟩
    · have h2 : decide ((len : Int) - 2 < p) = true := by simp; omega
      go_enter Try.func34, Try.ntmps34
      go_wp2
      go_ret
      exact ⟨rfl, rfl⟩
    · have h2 : decide ((len : Int) - 4 < p) = true := by simp; omega
      go_enter Try.func34, Try.ntmps34
      go_wp2
      go_ret
      exact ⟨rfl, rfl⟩
    · have h2 : decide ((len : Int) - 8 < p) = true := by simp; omega
      go_enter Try.func34, Try.ntmps34
      go_wp2
      go_ret
      exact ⟨rfl, rfl⟩
set_option maxHeartbeats 400000 in
theorem chk_ok (a : Option Addr) (len cap p size : Nat) (w : World) (hl : len ≤ 9223372036854775807) (hs : SizeOk size) (h : p + size ≤ len) :
    Calls Try.prog 34 #[.slice a len cap, .int .i64 (p : Nat), .int .i64 (size : Nat)] w fun e w' => e = .returned (.int .i64 0) ∧ w = w' := by
  unfold SizeOk at hs
  have hd : decide ((p : Int) < 0) = false := by simp
  rcases hs with rfl | rfl | rfl | rfl
  · have h2 : decide ((len : Int) - 1 < p) = false := by simp; omega
    go_enter Try.func34, Try.ntmps34
    go_wp2
    go_ret
    exact ⟨rfl, rfl⟩
  · have h2 : decide ((len : Int) - 2 < p) = false := by simp; omega
    go_enter Try.func34, Try.ntmps34
    go_wp2
    go_ret
    exact ⟨rfl, rfl⟩
  · have h2 : decide ((len : Int) - 4 < p) = false := by simp; omega
    go_enter Try.func34, Try.ntmps34
    go_wp2
    go_ret
    exact ⟨rfl, rfl⟩
  · have h2 : decide ((len : Int) - 8 < p) = false := by simp; omega
    go_enter Try.func34, Try.ntmps34
    go_wp2
    go_ret
    exact ⟨rfl, rfl⟩
set_option maxHeartbeats 400000 in
theorem place35 (p size i : Nat) (big : Bool) (w : World) (hp : p ≤ 4611686018427387904) (hs : size ≤ 8) (hi : i < size) :
    Calls Try.prog 35 #[.int .i64 (p : Nat), .int .i64 (size : Nat), .int .i64 (i : Nat), .bool big] w fun e w' => e = .returned (.int .i64 (placeN p size big i : Nat)) ∧ w = w' := by
  cases big
  · go_enter Try.func35, Try.ntmps35
    go_wp2
    go_ret
    exact ⟨by congr 2; simp [placeN]; omega, rfl⟩
  · go_enter Try.func35, Try.ntmps35
    go_wp2
    go_ret
    exact ⟨by congr 2, rfl⟩

set_option maxHeartbeats 400000 in
theorem get11_arg (a : Option Addr) (len cap : Nat) (p size : Int) (big : Bool) (w : World) (h : SizeBad size) :
    Calls Try.prog 11 #[.slice a len cap, .int .i64 p, .int .i64 size, .bool big] w fun e w' => e = .returned (.tuple #[.int .u64 0, .int .i64 1]) ∧ w = w' := by
  have H := Lib.hid h
  clear h
  go_enter Try.func11, Try.ntmps11
  go_wp2_with (go_at_call 34; refine (chk_arg _ _ _ _ _ _ H.out).mono ?_; rintro e w' ⟨rfl, rfl⟩)
  go_ret2
  exact ⟨rfl, rfl⟩
set_option maxHeartbeats 400000 in
theorem get11_end (a : Option Addr) (len cap : Nat) (p : Int) (size : Nat) (big : Bool) (w : World) (hl : len ≤ 9223372036854775807) (hs : SizeOk size) (h : p < 0 ∨ (len : Int) < p + size) :
    Calls Try.prog 11 #[.slice a len cap, .int .i64 p, .int .i64 (size : Nat), .bool big] w fun e w' => e = .returned (.tuple #[.int .u64 0, .int .i64 11]) ∧ w = w' := by
  have H := Lib.hid h
  clear h
  go_enter Try.func11, Try.ntmps11
  go_wp2_with (go_at_call 34; refine (chk_end _ _ _ _ _ _ hl hs H.out).mono ?_; rintro e w' ⟨rfl, rfl⟩)
  go_ret2
  exact ⟨rfl, rfl⟩
theorem placeN_lt {p size i : Nat} (big : Bool) (hi : i < size) : p ≤ placeN p size big i ∧ placeN p size big i < p + size := by
  unfold placeN; split <;> omega
set_option maxHeartbeats 400000 in
theorem get11_ok (a : Option Addr) (len cap p size : Nat) (big : Bool) (l : List Nat) (w : World) (hr : ByteRow w a len l) (hl : len ≤ 4611686018427387904) (hs : SizeOk size) (h : p + size ≤ len) :
    Calls Try.prog 11 #[.slice a len cap, .int .i64 (p : Nat), .int .i64 (size : Nat), .bool big] w fun e w' => e = .returned (.tuple #[.int .u64 (getN l p size big : Nat), .int .i64 0]) ∧ w = w' := by
  obtain ⟨hlen, _, hb, hrow⟩ := hr
  have hsz := hs.le
  obtain ⟨b, off, rfl, hc⟩ := hrow.resolve_left (by omega)
  have HL := Lib.hid hlen
  have HC := Lib.hid hc
  clear hlen hc hrow
  go_enter Try.func11, Try.ntmps11
  go_wp2_with (go_at_call 34; refine (chk_ok _ _ _ _ _ _ (by omega) hs h).mono ?_; rintro e w' ⟨rfl, rfl⟩)
  go_loop [11, 21] (fun v i => ∃ k : Nat, k ≤ size ∧ i = .int .i64 k ∧ v = .int .u64 (getTo l p size big k : Nat)) (fun _ i => size - (intOf i).toNat)
  case atStart => exact ⟨0, Nat.zero_le _, rfl, rfl⟩
  case round =>
    obtain ⟨k, hk, rfl, rfl⟩ := hrel
    by_cases hlt : k < size
    · have hv := getTo_lt7 hb p size big k (by omega)
      have hpl := placeN_lt (p := p) big hlt
      have hcell := HC.out (placeN p size big k) (by omega)
      have hx := getD_lt256 hb (placeN p size big k)
      have HS := Lib.hid (show getTo l p size big (k + 1) = getTo l p size big k * 256 + l.getD (placeN p size big k) 0 from rfl)
      have HP := Lib.hid (place35 p size k big w (by omega) hsz.2 hlt)
      generalize getTo l p size big k = v at *
      generalize l.getD (placeN p size big k) 0 = x at *
      generalize placeN p size big k = q at *
      have hor := bits_or_byte v x hv hx
      go_wp2_with (go_at_call 35; refine HP.out.mono ?_; rintro e w' ⟨rfl, rfl⟩)
      go_round
      case rel => exact ⟨k + 1, by omega, by go_num, by rw [HS.out]; go_num⟩
      case measure => simp [intOf]; omega
    · obtain rfl : k = size := by omega
      go_wp2
      go_ret2
      exact ⟨rfl, rfl⟩

set_option maxHeartbeats 400000 in
theorem width38_no (size : Int) (w : World) (h : SizeBad size) :
    Calls Try.prog 38 #[.int .i64 size] w fun e w' => e = .returned (.bool false) ∧ w = w' := by
  obtain ⟨h1, h2, h3, h4⟩ := h
  have e1 : (size == 1) = false := by simpa using h1
  have e2 : (size == 2) = false := by simpa using h2
  have e3 : (size == 4) = false := by simpa using h3
  have e4 : (size == 8) = false := by simpa using h4
  clear h1 h2 h3 h4
  go_enter Try.func38, Try.ntmps38
  go_wp2
  go_ret
  exact ⟨rfl, rfl⟩
set_option maxHeartbeats 400000 in
theorem width38_yes (size : Nat) (w : World) (h : SizeOk size) :
    Calls Try.prog 38 #[.int .i64 (size : Nat)] w fun e w' => e = .returned (.bool true) ∧ w = w' := by
  rcases h with rfl | rfl | rfl | rfl
  all_goals
    go_enter Try.func38, Try.ntmps38
    go_wp2
    go_ret
    exact ⟨rfl, rfl⟩
set_option maxHeartbeats 400000 in
theorem get13_arg (a : Option Addr) (len cap : Nat) (p size : Int) (big : Bool) (w : World) (h : SizeBad size) :
    Calls Try.prog 13 #[.slice a len cap, .int .i64 p, .int .i64 size, .bool big] w fun e w' => e = .returned (.tuple #[.int .u64 0, .int .i64 1]) ∧ w = w' := by
  have H := Lib.hid h
  clear h
  go_enter Try.func13, Try.ntmps13
  go_wp2_with (go_at_call 38; refine (width38_no _ _ H.out).mono ?_; rintro e w' ⟨rfl, rfl⟩)
  go_ret2
  exact ⟨rfl, rfl⟩
set_option maxHeartbeats 400000 in
theorem get13_end (a : Option Addr) (len cap : Nat) (p : Int) (size : Nat) (big : Bool) (w : World) (hl : len ≤ 9223372036854775807) (hs : SizeOk size) (h : p < 0 ∨ (len : Int) < p + size) :
    Calls Try.prog 13 #[.slice a len cap, .int .i64 p, .int .i64 (size : Nat), .bool big] w fun e w' => e = .returned (.tuple #[.int .u64 0, .int .i64 11]) ∧ w = w' := by
  have hsz := hs.le
  by_cases hp : p < 0
  · clear h
    go_enter Try.func13, Try.ntmps13
    go_wp2_with (go_at_call 38; refine (width38_yes _ _ hs).mono ?_; rintro e w' ⟨rfl, rfl⟩)
    go_ret2
    exact ⟨rfl, rfl⟩
  · have hd : decide (p < 0) = false := by simpa using hp
    by_cases hq : (len : Int) < p
    · clear h
      go_enter Try.func13, Try.ntmps13
      go_wp2_with (go_at_call 38; refine (width38_yes _ _ hs).mono ?_; rintro e w' ⟨rfl, rfl⟩)
      go_ret2
      exact ⟨rfl, rfl⟩
    · have hd2 : decide ((len : Int) < p) = false := by simpa using hq
      have hd3 : decide ((len : Int) - p < (size : Int)) = true := by simp; omega
      go_enter Try.func13, Try.ntmps13
      go_wp2_with (go_at_call 38; refine (width38_yes _ _ hs).mono ?_; rintro e w' ⟨rfl, rfl⟩)
      go_ret2
      exact ⟨rfl, rfl⟩
set_option maxHeartbeats 400000 in
theorem get13_ok (a : Option Addr) (len cap p size : Nat) (big : Bool) (l : List Nat) (w : World) (hr : ByteRow w a len l) (hl : len ≤ 4611686018427387904) (hs : SizeOk size) (h : p + size ≤ len) :
    Calls Try.prog 13 #[.slice a len cap, .int .i64 (p : Nat), .int .i64 (size : Nat), .bool big] w fun e w' => e = .returned (.tuple #[.int .u64 (getN l p size big : Nat), .int .i64 0]) ∧ w = w' := by
  obtain ⟨hlen, _, hb, hrow⟩ := hr
  have hsz := hs.le
  obtain ⟨b, off, rfl, hc⟩ := hrow.resolve_left (by omega)
  have HL := Lib.hid hlen
  have HC := Lib.hid hc
  clear hlen hc hrow
  have hd1 : decide ((p : Int) < 0) = false := by simp
  have hd2 : decide (len < p) = false := by simp; omega
  have hd3 : decide ((len : Int) - p < (size : Int)) = false := by simp; omega
  go_enter Try.func13, Try.ntmps13
  go_wp2_with (go_at_call 38; refine (width38_yes _ _ hs).mono ?_; rintro e w' ⟨rfl, rfl⟩)
  go_loop [11, 12] (fun v i => ∃ k : Nat, k ≤ size ∧ i = .int .i64 k ∧ v = .int .u64 (getTo l p size big k : Nat)) (fun _ i => size - (intOf i).toNat)
  case atStart => exact ⟨0, Nat.zero_le _, rfl, rfl⟩
  case round =>
    obtain ⟨k, hk, rfl, rfl⟩ := hrel
    by_cases hlt : k < size
    · cases big
      · have hv := getTo_lt7 hb p size false k (by omega)
        have hcell := HC.out (p + size - 1 - k) (by omega)
        have hx := getD_lt256 hb (p + size - 1 - k)
        have HS := Lib.hid (show getTo l p size false (k + 1) = getTo l p size false k * 256 + l.getD (p + size - 1 - k) 0 from rfl)
        generalize getTo l p size false k = v at *
        generalize l.getD (p + size - 1 - k) 0 = x at *
        go_wp2
        go_round
        case rel => exact ⟨k + 1, by omega, by go_num, by rw [HS.out]; go_num⟩
        case measure => simp [intOf]; omega
      · have hv := getTo_lt7 hb p size true k (by omega)
        have hcell := HC.out (p + k) (by omega)
        have hx := getD_lt256 hb (p + k)
        have HS := Lib.hid (show getTo l p size true (k + 1) = getTo l p size true k * 256 + l.getD (p + k) 0 from rfl)
        generalize getTo l p size true k = v at *
        generalize l.getD (p + k) 0 = x at *
        go_wp2
        go_round
        case rel => exact ⟨k + 1, by omega, by go_num, by rw [HS.out]; go_num⟩
        case measure => simp [intOf]; omega
    · obtain rfl : k = size := by omega
      go_wp2
      go_ret2
      exact ⟨rfl, rfl⟩
end Go.Proofs.Ytgoackkmjfgneaa
