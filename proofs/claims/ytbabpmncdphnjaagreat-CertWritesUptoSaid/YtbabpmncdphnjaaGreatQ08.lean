/- Parts of proofs of statements, each text behind those that it stands on. No condition of its own. -/
import Derived.Deep.OwnRows
import Derived.Laws.MathBits
import Derived.Test.YtbabpmncdphnjaaGreatQ04
namespace Go.Proofs.YtbabpmncdphnjaaGreat
open Go.RowKit
set_option linter.unusedVariables false
set_option maxRecDepth 100000
theorem nzI {x : Nat} (h : x ≠ 0) : ((x : Int) != 0) = true := by simp; omega
theorem eqzI {x : Nat} (h : x ≠ 0) : ((x : Int) == 0) = false := by simp; omega
theorem bodyOf_tag (t : Nat) (a a' : Option Addr) (n c n' c' : Nat) (x : Int) (hx : (t : Int) ≠ x) (w : World) :
    Calls Tryz.prog 100 #[itV t a n c a' n' c', .int .u8 x] w fun e w' => e = .returned (.tuple #[.slice none 0 0, .int .i64 123]) ∧ Below w.heap.size w w' := by
  have hb : ((t : Int) != x) = true := by simp; exact hx
  clear hx
  go_enter Tryz.func100, Tryz.ntmps100
  go_wp2
  go_ret2
  exact ⟨rfl, (Below.refl _ w).alloc (Nat.le_refl _) _⟩
theorem bodyOf_kids (t : Nat) (a a' : Option Addr) (n c n' c' : Nat) (h : 0 < n') (w : World) :
    Calls Tryz.prog 100 #[itV t a n c a' n' c', .int .u8 (t : Nat)] w fun e w' => e = .returned (.tuple #[.slice none 0 0, .int .i64 127]) ∧ Below w.heap.size w w' := by
  have hb : (0 : Int) < (n' : Int) := by omega
  go_enter Tryz.func100, Tryz.ntmps100
  go_wp2
  go_ret2
  exact ⟨rfl, (Below.refl _ w).alloc (Nat.le_refl _) _⟩
theorem bodyOf_ok (t : Nat) (a a' : Option Addr) (n c c' : Nat) (w : World) :
    Calls Tryz.prog 100 #[itV t a n c a' 0 c', .int .u8 (t : Nat)] w fun e w' => e = .returned (.tuple #[.slice a n c, .int .i64 0]) ∧ Below w.heap.size w w' := by
  go_enter Tryz.func100, Tryz.ntmps100
  go_wp2
  go_ret2
  exact ⟨rfl, (Below.refl _ w).alloc (Nat.le_refl _) _⟩
end Go.Proofs.YtbabpmncdphnjaaGreat
namespace Go.Proofs.YtbabpmncdphnjaaGreat
open Go.RowKit
set_option linter.unusedVariables false
set_option maxRecDepth 100000
def BoolIs (v : Bool) (x : Nat) (w : World) (e : Ending) (w' : World) : Prop := e = .returned (.tuple #[.bool v, .int .i64 (x : Nat)]) ∧ Below w.heap.size w w'
theorem BoolIs.of {v u : Bool} {x y : Nat} (h : v = u ∧ x = y) {w : World} : ∀ w', Below w.heap.size w w' → BoolIs v x w (.returned (.tuple #[.bool u, .int .i64 (y : Nat)])) w' := by
  obtain ⟨rfl, rfl⟩ := h
  exact fun w' hb => ⟨rfl, hb⟩
def ItemIs (t : Nat) (b : List Nat) (w : World) (e : Ending) (w' : World) : Prop := ∃ a c, e = .returned (itV t a b.length c none 0 0) ∧ ItIn w' t a c none 0 b .nil ∧ Below w.heap.size w w'
end Go.Proofs.YtbabpmncdphnjaaGreat
namespace Go.Proofs.YtbabpmncdphnjaaGreat
set_option linter.unusedVariables false
set_option maxRecDepth 100000
def be : Nat → Nat → List Nat
  | 0, _ => []
  | n + 1, v => be n (v / 256) ++ [v % 256]
theorem be_length : ∀ n v, (be n v).length = n
  | 0, _ => rfl
  | n + 1, v => by simp [be, be_length n]
theorem be_lt : ∀ n v, ∀ x ∈ be n v, x < 256
  | 0, _ => by simp [be]
  | n + 1, v => by
    intro x hx
    simp only [be, List.mem_append, List.mem_singleton] at hx
    rcases hx with hx | rfl
    · exact be_lt n _ x hx
    · omega
theorem beV_be : ∀ n v, v < 256 ^ n → beV (be n v) = v
  | 0, v, h => by simp at h; subst h; rfl
  | n + 1, v, h => by
    rw [be, beV_snoc, beV_be n (v / 256) (by rw [Nat.pow_succ] at h; omega)]; omega
def nb (v : Nat) : Nat := if v < 128 then 1 else nb (v / 256) + 1
termination_by v
decreasing_by omega
theorem nb_small {v : Nat} (h : v < 128) : nb v = 1 := by rw [nb, if_pos h]
theorem nb_big {v : Nat} (h : ¬ v < 128) : nb v = nb (v / 256) + 1 := by rw [nb, if_neg h]
theorem nb_pos (v : Nat) : 1 ≤ nb v := by
  by_cases h : v < 128
  · rw [nb_small h]; exact Nat.le_refl _
  · rw [nb_big h]; omega
theorem nb_lt : ∀ (m v : Nat), nb v ≤ m + 1 → v < 128 * 256 ^ m
  | 0, v, h => by
    by_cases h1 : v < 128
    · simpa using h1
    · rw [nb_big h1] at h; have := nb_pos (v / 256); omega
  | m + 1, v, h => by
    by_cases h1 : v < 128
    · have := Nat.pow_pos (n := m + 1) (show 0 < 256 by omega); omega
    · rw [nb_big h1] at h
      have := nb_lt m (v / 256) (by omega)
      rw [Nat.pow_succ]; omega
theorem nb_le : ∀ (m v : Nat), v < 128 * 256 ^ m → nb v ≤ m + 1
  | 0, v, h => by rw [nb_small (by simpa using h)]; exact Nat.le_refl _
  | m + 1, v, h => by
    by_cases h1 : v < 128
    · rw [nb_small h1]; omega
    · rw [nb_big h1]
      have := nb_le m (v / 256) (by rw [Nat.pow_succ] at h; omega)
      omega
theorem bitLen_small : ∀ v, v < 128 → bitLen v / 8 = 0 := by decide +kernel
theorem bitLen_mid : ∀ v, v < 256 → 128 ≤ v → bitLen v / 8 = 1 := by decide +kernel
theorem nb_bitLen : ∀ (n v : Nat), v ≤ n → v < 18446744073709551616 → bitLen v / 8 + 1 = nb v
  | 0, v, h, _ => by rw [nb_small (by omega), bitLen_small v (by omega)]
  | n + 1, v, h, hv => by
    by_cases h1 : v < 128
    · rw [nb_small h1, bitLen_small v h1]
    · rw [nb_big h1]
      by_cases h2 : v < 256
      · rw [bitLen_mid v h2 (by omega), show v / 256 = 0 by omega, nb_small (by omega)]
      · have := bitLen_shift v 8 (by rw [show (2 : Nat) ^ 8 = 256 from rfl]; omega)
        rw [show (2 : Nat) ^ 8 = 256 from rfl] at this
        have ih := nb_bitLen n (v / 256) (by omega) (by omega)
        rw [this]; omega
def uok (b : List Nat) : Bool := decide (b.length ≠ 0 ∧ b.getD 0 0 < 128 ∧ ¬ (1 < b.length ∧ b.getD 0 0 = 0 ∧ b.getD 1 0 < 128) ∧ (if b.getD 0 0 = 0 then b.length ≤ 9 else b.length ≤ 8))
theorem be_head : ∀ (n v : Nat), (be (n + 1) v).getD 0 0 = v / 256 ^ n % 256
  | 0, v => by simp [be]
  | n + 1, v => by
    rw [be]
    have hl : 0 < (be (n + 1) (v / 256)).length := by rw [be_length]; omega
    have e : (be (n + 1) (v / 256) ++ [v % 256]).getD 0 0 = (be (n + 1) (v / 256)).getD 0 0 := by
      simp only [List.getD_eq_getElem?_getD]; rw [List.getElem?_append_left hl]
    rw [e, be_head n, Nat.div_div_eq_div_mul, Nat.pow_succ, Nat.mul_comm]
theorem be_second : ∀ (n v : Nat), (be (n + 2) v).getD 1 0 = v / 256 ^ n % 256
  | 0, v => by simp [be]
  | n + 1, v => by
    rw [be]
    have hl : 1 < (be (n + 2) (v / 256)).length := by rw [be_length]; omega
    have e : (be (n + 2) (v / 256) ++ [v % 256]).getD 1 0 = (be (n + 2) (v / 256)).getD 1 0 := by
      simp only [List.getD_eq_getElem?_getD]; rw [List.getElem?_append_left hl]
    rw [e, be_second n, Nat.div_div_eq_div_mul, Nat.pow_succ, Nat.mul_comm]
theorem uok_be (v : Nat) (hv : v < 18446744073709551616) : uok (be (nb v) v) = true ∧ beV (be (nb v) v) = v ∧ nb v ≤ 9 := by
  have hp := nb_pos v
  obtain ⟨m, hm⟩ : ∃ m, nb v = m + 1 := ⟨nb v - 1, by omega⟩
  have h1 := nb_lt m v (by omega)
  have h9 : nb v ≤ 9 := nb_le 8 v (by rw [show (256 : Nat) ^ 8 = 18446744073709551616 from rfl]; omega)
  have h256 : v < 256 ^ (m + 1) := by rw [Nat.pow_succ]; omega
  rw [hm] at h9 ⊢
  refine ⟨decide_eq_true ⟨by rw [be_length]; omega, ?_, ?_, ?_⟩, beV_be _ _ h256, h9⟩
  · rw [be_head]
    have hpp := Nat.pow_pos (n := m) (show 0 < 256 by omega)
    have := Nat.div_lt_of_lt_mul (show v < 256 ^ m * 128 by omega)
    rw [Nat.mod_eq_of_lt (by omega)]; exact this
  · rw [be_length]
    rintro ⟨g1, g2, g3⟩
    obtain ⟨j, rfl⟩ : ∃ j, m = j + 1 := ⟨m - 1, by omega⟩
    rw [be_head] at g2
    rw [be_second] at g3
    have hpp := Nat.pow_pos (n := j) (show 0 < 256 by omega)
    have e : v / 256 ^ (j + 1) = v / 256 ^ j / 256 := by rw [Nat.pow_succ, Nat.div_div_eq_div_mul]
    rw [e] at g2
    have hq : v / 256 ^ j < 32768 := Nat.div_lt_of_lt_mul (by rw [Nat.pow_succ] at h1; omega)
    have hq2 : v / 256 ^ j < 128 := by omega
    have : v < 128 * 256 ^ j := by
      have := (Nat.div_lt_iff_lt_mul hpp).1 hq2; omega
    have := nb_le j v this
    omega
  · rw [be_head, be_length]
    split
    · exact h9
    · rename_i h
      by_cases h8 : m ≤ 7
      · omega
      · exfalso
        obtain rfl : m = 8 := by omega
        rw [show (256 : Nat) ^ 8 = 18446744073709551616 from rfl, Nat.div_eq_of_lt hv] at h
        exact h rfl
theorem beV_zero (l : List Nat) : beV (0 :: l) = beV l := by simp [beV]
end Go.Proofs.YtbabpmncdphnjaaGreat
namespace Go.Proofs.YtbabpmncdphnjaaGreat
open Go.RowKit
set_option linter.unusedVariables false
set_option maxRecDepth 100000
def tab8 : ByteArray := ⟨#[0, 1, 2, 2, 3, 3, 3, 3, 4, 4, 4, 4, 4, 4, 4, 4, 5, 5, 5, 5, 5, 5, 5, 5, 5, 5, 5, 5, 5, 5, 5, 5, 6, 6, 6, 6, 6, 6, 6, 6, 6, 6, 6, 6, 6, 6, 6, 6, 6, 6, 6, 6, 6, 6, 6, 6, 6, 6, 6, 6, 6, 6, 6, 6, 7, 7, 7, 7, 7, 7, 7, 7, 7, 7, 7, 7, 7, 7, 7, 7, 7, 7, 7, 7, 7, 7, 7, 7, 7, 7, 7, 7, 7, 7, 7, 7, 7, 7, 7, 7, 7, 7, 7, 7, 7, 7, 7, 7, 7, 7, 7, 7, 7, 7, 7, 7, 7, 7, 7, 7, 7, 7, 7, 7, 7, 7, 7, 7, 8, 8, 8, 8, 8, 8, 8, 8, 8, 8, 8, 8, 8, 8, 8, 8, 8, 8, 8, 8, 8, 8, 8, 8, 8, 8, 8, 8, 8, 8, 8, 8, 8, 8, 8, 8, 8, 8, 8, 8, 8, 8, 8, 8, 8, 8, 8, 8, 8, 8, 8, 8, 8, 8, 8, 8, 8, 8, 8, 8, 8, 8, 8, 8, 8, 8, 8, 8, 8, 8, 8, 8, 8, 8, 8, 8, 8, 8, 8, 8, 8, 8, 8, 8, 8, 8, 8, 8, 8, 8, 8, 8, 8, 8, 8, 8, 8, 8, 8, 8, 8, 8, 8, 8, 8, 8, 8, 8, 8, 8, 8, 8, 8, 8, 8, 8, 8, 8, 8, 8, 8, 8, 8, 8, 8, 8, 8, 8]⟩
theorem tab_all : ∀ n : Fin 256, ((tab8[n.val]?).getD 0).toNat = bitLen n.val := by decide +kernel
theorem tabAt (n : Nat) (h : n < tab8.size) : ((tab8[n]'h).toNat : Int) = bitLen n := by
  have e := tab_all ⟨n, h⟩
  have hg : tab8[n]? = some (tab8[n]'h) := getElem?_pos tab8 n h
  rw [hg] at e
  exact congrArg Int.ofNat e
theorem fin64 (k : Int) (kn : Nat) (y x : Int) (hkk : k = kn) (hk : kn ≤ 56) (hy : 0 ≤ y ∧ y < 256) (hx : bitLen x.toNat = kn + bitLen y.toNat) (h : y.toNat < tab8.size) : wrap64 (k + wrap64 ((tab8[y.toNat]'h).toNat : Int)) = (bitLen x.toNat : Int) := by
  rw [tabAt _ h, hx, hkk]
  have l := bitLen_le8 y.toNat (by omega)
  unfold wrap64
  omega
theorem fin0 (x : Int) (hy : 0 ≤ x ∧ x < 256) (h : x.toNat < tab8.size) : wrap64 (wrap64 ((tab8[x.toNat]'h).toNat : Int)) = (bitLen x.toNat : Int) := by
  rw [tabAt _ h]
  have l := bitLen_le8 x.toNat (by omega)
  unfold wrap64
  omega
set_option maxHeartbeats 4000000 in
theorem len64_any (x : Int) (w : World) (h0 : 0 ≤ x) (h1 : x ≤ 18446744073709551615) : Calls Tryz.prog 107 #[.int .u64 x] w fun e w' => e = .returned (.int .i64 (bitLen x.toNat)) ∧ w = w' := by
  go_enter Tryz.func107, Tryz.ntmps107
  go_wp2
  all_goals (go_ret; refine ⟨congrArg Ending.returned (congrArg (Value.int IntKind.i64) ?_), rfl⟩)
  · exact fin64 56 56 (x / 4294967296 / 65536 / 256) x rfl (by omega) (by omega) (by have e := bitLen_shift x.toNat 56 (by rw [show (2 : Nat) ^ 56 = 72057594037927936 from rfl]; omega); rw [e, show (2 : Nat) ^ 56 = 72057594037927936 from rfl]; congr 2; omega) _
  · exact fin64 48 48 (x / 4294967296 / 65536) x rfl (by omega) (by omega) (by have e := bitLen_shift x.toNat 48 (by rw [show (2 : Nat) ^ 48 = 281474976710656 from rfl]; omega); rw [e, show (2 : Nat) ^ 48 = 281474976710656 from rfl]; congr 2; omega) _
  · exact fin64 40 40 (x / 4294967296 / 256) x rfl (by omega) (by omega) (by have e := bitLen_shift x.toNat 40 (by rw [show (2 : Nat) ^ 40 = 1099511627776 from rfl]; omega); rw [e, show (2 : Nat) ^ 40 = 1099511627776 from rfl]; congr 2; omega) _
  · exact fin64 32 32 (x / 4294967296) x rfl (by omega) (by omega) (by have e := bitLen_shift x.toNat 32 (by rw [show (2 : Nat) ^ 32 = 4294967296 from rfl]; omega); rw [e, show (2 : Nat) ^ 32 = 4294967296 from rfl]; congr 2; omega) _
  · exact fin64 24 24 (x / 65536 / 256) x rfl (by omega) (by omega) (by have e := bitLen_shift x.toNat 24 (by rw [show (2 : Nat) ^ 24 = 16777216 from rfl]; omega); rw [e, show (2 : Nat) ^ 24 = 16777216 from rfl]; congr 2; omega) _
  · exact fin64 16 16 (x / 65536) x rfl (by omega) (by omega) (by have e := bitLen_shift x.toNat 16 (by rw [show (2 : Nat) ^ 16 = 65536 from rfl]; omega); rw [e, show (2 : Nat) ^ 16 = 65536 from rfl]; congr 2; omega) _
  · exact fin64 8 8 (x / 256) x rfl (by omega) (by omega) (by have e := bitLen_shift x.toNat 8 (by rw [show (2 : Nat) ^ 8 = 256 from rfl]; omega); rw [e, show (2 : Nat) ^ 8 = 256 from rfl]; congr 2; omega) _
  · exact fin0 x (by omega) _
end Go.Proofs.YtbabpmncdphnjaaGreat
namespace Go.Proofs.YtbabpmncdphnjaaGreat
open Go.RowKit
set_option linter.unusedVariables false
set_option maxRecDepth 100000
theorem be_top : ∀ (j v : Nat), be (j + 1) v = (v / 256 ^ j % 256) :: be j v
  | 0, v => by simp [be]
  | j + 1, v => by
    show be (j + 1) (v / 256) ++ [v % 256] = _
    rw [be_top j (v / 256), Nat.div_div_eq_div_mul, Nat.pow_succ, Nat.mul_comm (256 ^ j)]
    rfl
theorem be_fill (m j v : Nat) : (zeros (m + 1) ++ be j v).set m (v / 256 ^ j % 256) = zeros m ++ be (j + 1) v := by
  rw [be_top, show zeros (m + 1) = zeros m ++ [0] from by simp [zeros, List.replicate_succ'], List.append_assoc, List.set_append_right (h := by simp [zeros])]
  simp [zeros]
theorem be_zero (j v : Nat) (h : v < 256 ^ j) : be (j + 1) v = 0 :: be j v := by rw [be_top, Nat.div_eq_of_lt h]
theorem be_nb (j v : Nat) (hj : 1 ≤ j) (h1 : v < 256 ^ j) (h2 : j = 1 ∨ 256 ^ (j - 1) ≤ v) : (128 ≤ (be j v).getD 0 0 → 0 :: be j v = be (nb v) v) ∧ ((be j v).getD 0 0 < 128 → be j v = be (nb v) v) := by
  obtain ⟨m, rfl⟩ : ∃ m, j = m + 1 := ⟨j - 1, by omega⟩
  have hp := Nat.pow_pos (n := m) (show 0 < 256 by omega)
  have hq : v / 256 ^ m < 256 := Nat.div_lt_of_lt_mul (by rw [Nat.pow_succ] at h1; exact h1)
  rw [be_head, Nat.mod_eq_of_lt hq]
  constructor
  · intro h
    have h3 := (Nat.le_div_iff_mul_le hp).1 h
    have h4 := nb_le (m + 1) v (by omega)
    have h5 : ¬ nb v ≤ m + 1 := fun hh => by have := nb_lt m v hh; omega
    rw [show nb v = m + 2 by omega, be_zero _ _ h1]
  · intro h
    have h3 := (Nat.div_lt_iff_lt_mul hp).1 h
    have h4 := nb_le m v h3
    have h5 : nb v = m + 1 := by
      have hpos := nb_pos v
      rcases h2 with h2 | h2
      · omega
      · rcases Nat.lt_or_ge (nb v) (m + 1) with h6 | h6
        · exfalso
          obtain ⟨i, rfl⟩ : ∃ i, m = i + 1 := ⟨m - 1, by omega⟩
          have := nb_lt i v (by omega)
          rw [Nat.add_sub_cancel, Nat.pow_succ] at h2
          have := Nat.pow_pos (n := i) (show 0 < 256 by omega)
          omega
        · omega
    rw [h5]
theorem info5m : (Tryz.prog.info? 5).map (fun i => (i.zero, i.size, i.bytes)) = some (some (.int .u8 0), 1, 1) := info5
theorem made_bytes (n : Nat) : madeCells #[Value.int .u8 0] n = (natsV .u8 (zeros n)).toArray := by
  apply Array.ext
  · simp [madeCells, natsV, zeros]
  · intro i h1 h2
    simp [madeCells, natsV, zeros, Nat.mod_one]
theorem mk_u8 (n : Nat) (hn : n ≤ 100000) (w : World) : (Instr.makeSlice 22 (.int .i64 (n : Int)) (.int .i64 (n : Int))).run Tryz.prog w = .ok (.slice (some ⟨w.heap.size, 0, none⟩) n n) (w.alloc (.cells (natsV .u8 (zeros n)).toArray 5)) := by
  rw [← made_bytes]
  exact run_make_row' 22 5 (.int .u8 0) 1 Tryz.underlying22 info5m rfl .i64 .i64 n (by omega) (by omega) w
theorem blk_own {w : World} {base g n : Nat} {L : List Nat} (h : Blk w g 5 (natsV .u8 L)) (hg : base ≤ g) (hl : L.length = n) (hn : n ≤ 100000) : w.ownsRow base 5 1 (.slice (some ⟨g, 0, none⟩) n n) L.length (bytesV L) := by
  subst hl
  exact ⟨by simp [bytesV], .inr ⟨g, L.length, _, rfl, hg, h, Nat.le_refl _, by unfold maxLen; omega, by simp [natsV], by show List.take (L.length * 1) (natsV .u8 L) = _; rw [List.take_of_length_le (by simp [natsV])]; rfl⟩⟩
theorem blk_in {w : World} {g n : Nat} {L : List Nat} (h : Blk w g 5 (natsV .u8 L)) (hl : L.length = n) (hn : n ≤ 100000) (h8 : ∀ x ∈ L, x < 256) : BIn w (some ⟨g, 0, none⟩) n n L := by
  obtain ⟨a, c, e, hin, _⟩ := own_in (blk_own h (Nat.zero_le g) hl hn) h8 (by omega)
  injection e with e1 e2 e3
  subst e1 e3
  rw [hl] at hin
  exact hin
theorem ItemIs.of {t : Nat} {b : List Nat} {w w' : World} {n : Nat} {a : Option Addr} {c : Nat} (ht : t < 256) (hn : b.length = n) (hb : BIn w' a n c b) (hbel : Below w.heap.size w w') : ItemIs t b w (.returned (itV t a n c none 0 0)) w' := by
  subst hn; exact ⟨a, c, rfl, ⟨ht, hb, KIn.nil _⟩, hbel⟩
theorem own_lit1 (w : World) (x : Nat) : (w.alloc (.cells #[.int .u8 (x : Nat)] 5)).ownsRow w.heap.size 5 1 (.slice (some ⟨w.heap.size, 0, none⟩) 1 1) 1 (bytesV [x]) :=
  World.ownsRow_lit (base := w.heap.size) (e := 5) (size := 1) w (bytesV [x]).toArray 1 (Nat.le_refl _) (by simp [maxLen]) (by simp [bytesV])
def lenOf (v : Value) : Nat := match v with | .slice _ n _ => n | _ => 0
end Go.Proofs.YtbabpmncdphnjaaGreat
namespace Go.Proofs.YtbabpmncdphnjaaGreat
set_option linter.unusedVariables false
set_option maxRecDepth 100000
def glo (v : Nat) : List Nat := if h : v = 0 then [] else (128 + v % 128) :: glo (v / 128)
termination_by v
decreasing_by omega
theorem glo_zero : glo 0 = [] := by rw [glo]; rfl
theorem glo_pos {v : Nat} (h : v ≠ 0) : glo v = (128 + v % 128) :: glo (v / 128) := by rw [glo, dif_neg h]
theorem glo_len : ∀ (n v : Nat), v < 128 ^ n → (glo v).length ≤ n
  | 0, v, h => by
    obtain rfl : v = 0 := by simpa using h
    rw [glo_zero]; exact Nat.le_refl _
  | n + 1, v, h => by
    by_cases h0 : v = 0
    · subst h0; rw [glo_zero]; exact Nat.zero_le _
    · rw [glo_pos h0, List.length_cons]
      have := glo_len n (v / 128) (by rw [Nat.pow_succ] at h; omega)
      omega
theorem glo_lt : ∀ (n v : Nat), v ≤ n → ∀ x ∈ glo v, x < 256
  | 0, v, h => by
    obtain rfl : v = 0 := by omega
    rw [glo_zero]; simp
  | n + 1, v, h => by
    by_cases h0 : v = 0
    · subst h0; rw [glo_zero]; simp
    · rw [glo_pos h0]
      intro x hx
      rcases List.mem_cons.1 hx with rfl | hx
      · omega
      · exact glo_lt n (v / 128) (by omega) x hx
def fig (v : Nat) : List Nat := (glo (v / 128)).reverse ++ [v % 128]
theorem fig_lt (v : Nat) : ∀ x ∈ fig v, x < 256 := by
  intro x hx
  simp only [fig, List.mem_append, List.mem_reverse, List.mem_singleton] at hx
  rcases hx with hx | rfl
  · exact glo_lt _ _ (Nat.le_refl _) x hx
  · omega
theorem fig_len {v : Nat} (h : v ≤ 4294967295) : (fig v).length ≤ 5 := by
  have := glo_len 4 (v / 128) (by rw [show (128 : Nat) ^ 4 = 268435456 from rfl]; omega)
  simp [fig]; exact this
def figs (l : List Nat) : List Nat := l.flatMap fig
theorem figs_cons (v : Nat) (l : List Nat) : figs (v :: l) = fig v ++ figs l := rfl
theorem figs_lt (l : List Nat) : ∀ x ∈ figs l, x < 256 := by
  intro x hx
  obtain ⟨v, _, hv⟩ := List.mem_flatMap.1 hx
  exact fig_lt v x hv
def oidOk (l : List Nat) : Bool := decide (2 ≤ l.length ∧ l.length ≤ 20 ∧ l.getD 0 0 ≤ 2 ∧ (l.getD 0 0 = 2 ∨ l.getD 1 0 < 40) ∧ 40 * l.getD 0 0 + l.getD 1 0 ≤ 4294967295 ∧ ∀ x ∈ l.drop 2, x ≤ 4294967295)
def fl (l : List Nat) : List Nat := (40 * l.getD 0 0 + l.getD 1 0) :: l.drop 2
def unf (F : List Nat) : List Nat := min (F.getD 0 0 / 40) 2 :: (F.getD 0 0 - 40 * min (F.getD 0 0 / 40) 2) :: F.drop 1
theorem oidOk_fl {l : List Nat} (h : oidOk l = true) : fl l ≠ [] ∧ (fl l).length ≤ 19 ∧ (∀ v ∈ fl l, v ≤ 4294967295) ∧ unf (fl l) = l := by
  obtain ⟨h1, h2, h3, h4, h5, h6⟩ := of_decide_eq_true h
  refine ⟨by simp [fl], by simp [fl]; omega, ?_, ?_⟩
  · intro v hv
    rcases List.mem_cons.1 hv with rfl | hv
    · exact h5
    · exact h6 v hv
  · match l, h1, h3, h4, h5 with
    | x :: y :: r, _, h3, h4, h5 =>
      simp [fl, unf] at h3 h4 h5 ⊢
      omega
def ofE (l : List Nat) : Except Nat (List Nat) := if oidOk l then .ok (figs (fl l)) else .error 127
def lo : Nat → List Nat → List Nat → Option (List Nat)
  | _, l, [] => some l
  | v, l, x :: r => if 4294967295 < v then none else if 128 ≤ x then lo (128 * v + x % 128) l r
    else lo 0 (if l = [] then [min ((128 * v + x % 128) / 40) 2, (128 * v + x % 128) - 40 * min ((128 * v + x % 128) / 40) 2] else l ++ [128 * v + x % 128]) r
end Go.Proofs.YtbabpmncdphnjaaGreat
