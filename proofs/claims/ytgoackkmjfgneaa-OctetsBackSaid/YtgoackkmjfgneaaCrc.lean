/- The two CRC functions, the project's and the document's, each give the plain sum of CrcM, for every start and every list that lies in memory. -/
import Derived.Test.YtgoackkmjfgneaaProg
import Derived.Test.YtgoackkmjfgneaaCrcM
import Derived.WalkKit
import Derived.ProofKit
import Derived.Lib.Hide
import Derived.Handy
namespace Go.Proofs.Ytgoackkmjfgneaa
open Go.RowKit

/-- A slice's value leads to these bytes. -/
def ByteRow (w : World) (a : Option Addr) (len : Nat) (l : List Nat) : Prop :=
  l.length = len ∧ len ≤ maxLen ∧ (∀ x ∈ l, x < 256) ∧ (len = 0 ∨ ∃ b off, a = some ⟨b, off, none⟩ ∧ ∀ i, i < len → w.cell? ⟨b, off + i, none⟩ = some (.int .u8 (l.getD i 0 : Nat)))

theorem ret_u32 {a b : Int} (h : a = b) : Ending.returned (.int .u32 a) = .returned (.int .u32 b) := by rw [h]
theorem take_snoc (l : List Nat) (k : Nat) (h : k < l.length) : l.take (k + 1) = l.take k ++ [l.getD k 0] := by
  rw [List.take_succ_eq_append_getElem h]; simp [List.getD_eq_getElem?_getD, h]
theorem getD_lt {l : List Nat} (h : ∀ x ∈ l, x < 256) (k : Nat) : l.getD k 0 < 256 := by
  by_cases hk : k < l.length
  · rw [List.getD_eq_getElem?_getD, List.getElem?_eq_getElem hk]; exact h _ (List.getElem_mem hk)
  · rw [List.getD_eq_getElem?_getD, List.getElem?_eq_none (by omega)]; decide
theorem bits_byte (r x : Nat) (h : r < 4294967296) (hx : x < 256) : bits .xor .u32 (r : Int) (x : Int) = ((r ^^^ x : Nat) : Int) := u32_xor_nat r x h (by omega)
theorem crcBit_odd {r : Nat} (h : r % 2 = 1) : crcBit r = (r / 2) ^^^ 3988292384 := if_pos h
theorem crcBit_even {r : Nat} (h : r % 2 = 0) : crcBit r = r / 2 := if_neg (by omega)

/-- the relation of the inner loop -/
def BitRel (R : Nat) (r k : Value) : Prop := ∃ j : Nat, j ≤ 8 ∧ k = .int .i64 j ∧ r = .int .u32 (crcBits j R : Nat)

set_option maxHeartbeats 400000 in
theorem crc24 (s : Nat) (hs : s < 4294967296) (a : Option Addr) (len cap : Nat) (l : List Nat) (w : World) (h : ByteRow w a len l) :
    Calls Try.prog 24 #[.int .u32 (s : Nat), .slice a len cap] w fun e w' => e = .returned (.int .u32 (crcOf s l : Nat)) ∧ w = w' := by
  obtain ⟨hlen, hmax, hb, hrow⟩ := h
  unfold maxLen at hmax
  have H0 := Lib.hid (bits_flip s hs)
  have hR0 : 4294967295 ^^^ s < 4294967296 := Nat.xor_lt_two_pow (n := 32) (by decide) hs
  have H1 := Lib.hid hlen
  clear hlen
  go_enter Try.func24, Try.ntmps24
  go_wp2
  rw [H0.out]
  go_loop [5, 13] (fun r i => ∃ k : Nat, k ≤ len ∧ i = .int .i64 k ∧ r = .int .u32 (crcGo (4294967295 ^^^ s) (l.take k) : Nat)) (fun _ i => len - (intOf i).toNat)
  case atStart => exact ⟨0, Nat.zero_le _, rfl, rfl⟩
  case round =>
    obtain ⟨k, hk, rfl, rfl⟩ := hrel
    have hb' : ∀ x ∈ l.take k, x < 256 := fun x hx => hb x (List.mem_of_mem_take hx)
    have hR : crcGo (4294967295 ^^^ s) (l.take k) < 4294967296 := crcGo_lt hR0 _ hb'
    by_cases hlt : k < len
    · obtain ⟨b, off, rfl, hc⟩ := hrow.resolve_left (by omega)
      have hcell := hc k hlt
      have hx := getD_lt hb k
      have hsn := crcGo_snoc (4294967295 ^^^ s) (l.take k) (l.getD k 0)
      rw [← take_snoc l k (by have := H1.out; omega)] at hsn
      have HS := Lib.hid hsn
      clear hsn hc hrow hb'
      generalize crcGo (4294967295 ^^^ s) (l.take k) = R at *
      generalize l.getD k 0 = x at *
      have hbx := bits_byte R x hR hx
      go_wp2
      have hR2 : R ^^^ x < 4294967296 := Nat.xor_lt_two_pow (n := 32) hR (by omega)
      clear hbx
      have HB := Lib.hid (show crcByte R x = crcBits 8 (R ^^^ x) from rfl)
      generalize R ^^^ x = Q at *
      go_loop [5, 21] (fun r j => ∃ m : Nat, m ≤ 8 ∧ j = .int .i64 m ∧ r = .int .u32 (crcBits m Q : Nat)) (fun _ j => 8 - (intOf j).toNat)
      case atStart => exact ⟨0, by omega, rfl, rfl⟩
      case round =>
        obtain ⟨m, hm, rfl, rfl⟩ := hrel
        by_cases hm8 : m < 8
        · have hQ := crcBits_lt hR2 m
          have hsucc : crcBits (m + 1) Q = crcBit (crcBits m Q) := rfl
          have HQ := Lib.hid hsucc
          clear hsucc
          generalize crcBits m Q = q at *
          have h1 := bits_and1 q hQ
          have h2 := bits_poly q hQ
          rcases Nat.mod_two_eq_zero_or_one q with hq | hq
          · have h3 : (((q % 2 : Nat) : Int) == 1) = false := by rw [hq]; decide
            have HE := Lib.hid (crcBit_even hq)
            clear hq
            go_wp2
            go_round
            case rel => exact ⟨m + 1, by omega, by go_num, by rw [HQ.out, HE.out]; rfl⟩
            case measure => simp [intOf]; omega
          · have h3 : (((q % 2 : Nat) : Int) == 1) = true := by rw [hq]; decide
            have HE := Lib.hid (crcBit_odd hq)
            clear hq
            go_wp2
            go_round
            case rel => exact ⟨m + 1, by omega, by go_num, by rw [HQ.out, HE.out]⟩
            case measure => simp [intOf]; omega
        · obtain rfl : m = 8 := by omega
          go_wp2
          go_round
          case rel => exact ⟨k + 1, by omega, by go_num, by rw [HS.out, HB.out]⟩
          case measure => simp [intOf]; omega
    · obtain rfl : k = len := by omega
      have hfin : l.take k = l := List.take_of_length_le (by have := H1.out; omega)
      rw [hfin] at hR ⊢
      clear hfin
      have HF := Lib.hid (show crcOf s l = 4294967295 ^^^ crcGo (4294967295 ^^^ s) l from rfl)
      have hbf := bits_flip _ hR
      go_wp2
      go_ret
      exact ⟨ret_u32 (by rw [HF.out]), rfl⟩
set_option maxHeartbeats 400000 in
theorem crc25 (s : Nat) (hs : s < 4294967296) (a : Option Addr) (len cap : Nat) (l : List Nat) (w : World) (h : ByteRow w a len l) :
    Calls Try.prog 25 #[.int .u32 (s : Nat), .slice a len cap] w fun e w' => e = .returned (.int .u32 (crcOf s l : Nat)) ∧ w = w' := by
  obtain ⟨hlen, hmax, hb, hrow⟩ := h
  unfold maxLen at hmax
  have H0 := Lib.hid (bits_flip s hs)
  have hR0 : 4294967295 ^^^ s < 4294967296 := Nat.xor_lt_two_pow (n := 32) (by decide) hs
  have H1 := Lib.hid hlen
  clear hlen
  go_enter Try.func25, Try.ntmps25
  go_wp2
  rw [H0.out]
  go_loop [5, 6] (fun r i => ∃ k : Nat, k ≤ len ∧ i = .int .i64 k ∧ r = .int .u32 (crcGo (4294967295 ^^^ s) (l.take k) : Nat)) (fun _ i => len - (intOf i).toNat)
  case atStart => exact ⟨0, Nat.zero_le _, rfl, rfl⟩
  case round =>
    obtain ⟨k, hk, rfl, rfl⟩ := hrel
    have hb' : ∀ x ∈ l.take k, x < 256 := fun x hx => hb x (List.mem_of_mem_take hx)
    have hR : crcGo (4294967295 ^^^ s) (l.take k) < 4294967296 := crcGo_lt hR0 _ hb'
    by_cases hlt : k < len
    · obtain ⟨b, off, rfl, hc⟩ := hrow.resolve_left (by omega)
      have hcell := hc k hlt
      have hx := getD_lt hb k
      have hsn := crcGo_snoc (4294967295 ^^^ s) (l.take k) (l.getD k 0)
      rw [← take_snoc l k (by have := H1.out; omega)] at hsn
      have HS := Lib.hid hsn
      clear hsn hc hrow hb'
      generalize crcGo (4294967295 ^^^ s) (l.take k) = R at *
      generalize l.getD k 0 = x at *
      have hbx := bits_byte R x hR hx
      go_wp2
      have hR2 : R ^^^ x < 4294967296 := Nat.xor_lt_two_pow (n := 32) hR (by omega)
      clear hbx
      have HB := Lib.hid (show crcByte R x = crcBits 8 (R ^^^ x) from rfl)
      generalize R ^^^ x = Q at *
      go_loop [5, 7] (fun r j => ∃ m : Nat, m ≤ 8 ∧ j = .int .i64 m ∧ r = .int .u32 (crcBits m Q : Nat)) (fun _ j => 8 - (intOf j).toNat)
      case atStart => exact ⟨0, by omega, rfl, rfl⟩
      case round =>
        obtain ⟨m, hm, rfl, rfl⟩ := hrel
        by_cases hm8 : m < 8
        · have hQ := crcBits_lt hR2 m
          have hsucc : crcBits (m + 1) Q = crcBit (crcBits m Q) := rfl
          have HQ := Lib.hid hsucc
          clear hsucc
          generalize crcBits m Q = q at *
          have h2 := bits_poly q hQ
          rcases Nat.mod_two_eq_zero_or_one q with hq | hq
          · have h3 : (((q % 2 : Nat) : Int) == 1) = false := by rw [hq]; decide
            have HE := Lib.hid (crcBit_even hq)
            clear hq
            go_wp2
            go_round
            case rel => exact ⟨m + 1, by omega, by go_num, by rw [HQ.out, HE.out]; rfl⟩
            case measure => simp [intOf]; omega
          · have h3 : (((q % 2 : Nat) : Int) == 1) = true := by rw [hq]; decide
            have HE := Lib.hid (crcBit_odd hq)
            clear hq
            go_wp2
            go_round
            case rel => exact ⟨m + 1, by omega, by go_num, by rw [HQ.out, HE.out]⟩
            case measure => simp [intOf]; omega
        · obtain rfl : m = 8 := by omega
          go_wp2
          go_round
          case rel => exact ⟨k + 1, by omega, by go_num, by rw [HS.out, HB.out]⟩
          case measure => simp [intOf]; omega
    · obtain rfl : k = len := by omega
      have hfin : l.take k = l := List.take_of_length_le (by have := H1.out; omega)
      rw [hfin] at hR ⊢
      clear hfin
      have HF := Lib.hid (show crcOf s l = 4294967295 ^^^ crcGo (4294967295 ^^^ s) l from rfl)
      have hbf := bits_flip _ hR
      go_wp2
      go_ret
      exact ⟨ret_u32 (by rw [HF.out]), rfl⟩
end Go.Proofs.Ytgoackkmjfgneaa
