/- The document's Span. No condition. -/
import Derived.Test.YtlgpaglkhgomiaaRb
import Derived.Test.YtlgpaglkhgomiaaSn
namespace Go.Proofs.Ytlgpaglkhgomiaa
open Go.RowKit
set_option linter.unusedVariables false
set_option maxRecDepth 100000
set_option linter.unusedSimpArgs false
/-- a piece of a list in memory, by numbers of any kind -/
theorem slice_binK (kl kh : IntKind) {w : World} {a : Option Addr} {n cp x y : Nat} {l : List Nat} (h : BIn w a n cp l) (hn : 0 < n) (hx : x + y ≤ n) (w' : World) : ∃ a', (Instr.slice 41 (.slice a n cp) (some (.int kl (x : Nat))) (some (.int kh ((x : Int) + (y : Int)))) none).run Try.prog w' = .ok (.slice a' y (cp - x)) w' ∧ BIn w a' y (cp - x) ((l.drop x).take y) := by
  have he : Try.prog.elem 41 = 5 := by kernel_rfl
  obtain ⟨i0, hi0, hz0, hz1, hz2⟩ := info_parts info5
  have hs : ∀ w', (sizeOf 5).run Try.prog w' = .ok 1 w' := fun w' => by simp [sizeOf, typeInfo, hi0, hz1]
  have hcp := h.2.1
  obtain ⟨b, off, rfl, hc⟩ := h.1.2.2.2.resolve_left (by omega)
  have hrun : (Instr.slice 41 (.slice (some ⟨b, off, none⟩) n cp) (some (.int kl (x : Nat))) (some (.int kh ((x : Int) + (y : Int)))) none).run Try.prog w' = .ok (sliced (some ⟨b, off, none⟩) x (x + y) cp 1) w' := by
    rw [run_slice_lh w' 41 (some ⟨b, off, none⟩) n cp (by rw [he]; exact Try.underlying41) kl kh x ((x : Int) + (y : Int)) (by omega) (by omega) (by omega), he, hs]
    simp only [Result.andThen]
    congr 2
  rw [hrun]
  unfold sliced
  rw [show x + y - x = y by omega]
  by_cases q : cp = x
  · rw [if_pos q]
    have hy : y = 0 := by omega
    subst hy
    refine ⟨_, rfl, ?_⟩
    simp only [List.take_zero]
    exact bin_empty w _ _ (by have := h.2.2.1; omega) (fun e => by cases e)
  · rw [if_neg q]
    refine ⟨_, rfl, ?_⟩
    show BIn w (some ((⟨b, off, none⟩ : Addr).add (x * 1))) _ _ _
    rw [Nat.mul_one, Addr.add_mid]
    exact bin_sub h hn hx
set_option maxHeartbeats 400000 in
theorem rspan_off (base r : Nat) (N left many : Int) (dn : Bool) (bs : List BlkR) (p q x y : Value) (w : World) (h : RfAt w base r N true left dn many bs) :
    Calls Try.prog 36 #[.pointer (some ⟨r, 0, none⟩), p, q, x, y] w fun e w' => e = .returned (.tuple #[.slice none 0 0, .int .i64 143]) ∧ w = w' := by
  obtain ⟨aL, cL, c0, c1, c2, c3, c4, c5, _, _⟩ := h.cells
  clear h c1 c4 c5 c3
  go_enter Try.func36, Try.ntmps36
  go_wp2
  go_ret2
  exact ⟨rfl, rfl⟩
set_option maxHeartbeats 1600000 in
theorem rspan_block (base r : Nat) (N left many a b : Int) (dn : Bool) (bs : List BlkR) (x y : Value) (w : World) (h : RfAt w base r N false left dn many bs) (hN0 : 0 ≤ N) (hN : N ≤ 1048576) (ha : I64 a) (hb : I64 b) (hbad : a < 0 ∨ b < 0 ∨ N - a < b) :
    Calls Try.prog 36 #[.pointer (some ⟨r, 0, none⟩), .int .i64 a, .int .i64 b, x, y] w fun e w' => e = .returned (.tuple #[.slice none 0 0, .int .i64 141]) ∧ w = w' := by
  obtain ⟨aL, cL, c0, c1, c2, c3, c4, c5, _, _⟩ := h.cells
  obtain ⟨h1, h2⟩ := ha
  obtain ⟨h3, h4⟩ := hb
  clear h c1 c4 c5 c3
  by_cases q1 : a < 0
  · clear hbad
    go_enter Try.func36, Try.ntmps36
    go_wp2
    go_ret2
    exact ⟨rfl, rfl⟩
  · by_cases q2 : b < 0
    · clear hbad
      go_enter Try.func36, Try.ntmps36
      go_wp2
      go_ret2
      exact ⟨rfl, rfl⟩
    · by_cases q4 : N < a
      · clear hbad
        go_enter Try.func36, Try.ntmps36
        go_wp2
        go_ret2
        exact ⟨rfl, rfl⟩
      · have q3 : N - a < b := by omega
        clear hbad
        go_enter Try.func36, Try.ntmps36
        go_wp2
        go_ret2
        exact ⟨rfl, rfl⟩
set_option maxHeartbeats 1600000 in
theorem rspan_size (base r : Nat) (N left many a : Int) (b x y : Nat) (dn : Bool) (bs : List BlkR) (w : World) (h : RfAt w base r N false left dn many bs) (hN : N ≤ 1048576) (ha0 : 0 ≤ a) (hab : (b : Int) ≤ N - a) (hx : x < 18446744073709551616) (hy : y < 18446744073709551616) (hbad : 512 * b < x ∨ 512 * b - x < y ∨ 131072 < y) :
    Calls Try.prog 36 #[.pointer (some ⟨r, 0, none⟩), .int .i64 a, .int .i64 (b : Nat), .int .u64 (x : Nat), .int .u64 (y : Nat)] w fun e w' => e = .returned (.tuple #[.slice none 0 0, .int .i64 142]) ∧ w = w' := by
  obtain ⟨aL, cL, c0, c1, c2, c3, c4, c5, _, _⟩ := h.cells
  have q1 : ¬ a < 0 := by omega
  have q3 : ¬ N - a < (b : Int) := by omega
  have q5 : ¬ N < a := by omega
  have b1 : 0 ≤ N - a := by omega
  have b2 : N - a ≤ 9223372036854775807 := by omega
  have b3 : (b : Int) ≤ 1048576 := by omega
  have q2 : ¬ (b : Int) < 0 := by omega
  obtain ⟨M, hM⟩ : ∃ M : Nat, 512 * b = M := ⟨_, rfl⟩
  have em : (b : Int) * 512 = (M : Int) := by omega
  have hMl : M ≤ 536870912 := by omega
  rw [hM] at hbad
  clear h hM c1 c4 c5 c3
  by_cases h6 : M < x
  · have t6 : (M : Int) < (x : Int) := by omega
    clear hbad
    go_enter Try.func36, Try.ntmps36
    go_wp2
    go_ret2
    exact ⟨rfl, rfl⟩
  · have t6 : ¬ (M : Int) < (x : Int) := by omega
    have d1 : 0 ≤ (M : Int) - (x : Int) := by omega
    by_cases h7 : M - x < y
    · have t7 : (M : Int) - (x : Int) < (y : Int) := by omega
      clear hbad
      go_enter Try.func36, Try.ntmps36
      go_wp2
      go_ret2
      exact ⟨rfl, rfl⟩
    · have t7 : ¬ (M : Int) - (x : Int) < (y : Int) := by omega
      have t8 : (131072 : Int) < (y : Int) := by omega
      clear hbad
      go_enter Try.func36, Try.ntmps36
      go_wp2
      go_ret2
      exact ⟨rfl, rfl⟩
/-- how long a slice's value is -/
def lenV : Value → Nat
  | .slice _ n _ => n
  | _ => 0
set_option maxHeartbeats 3200000 in
theorem rspan_ok (base r : Nat) (N left many a : Int) (b x y : Nat) (dn : Bool) (bs : List BlkR) (w : World) (h : RfAt w base r N false left dn many bs) (hN : N ≤ 1048576) (ha0 : 0 ≤ a) (hab : (b : Int) ≤ N - a) (h1 : x ≤ 512 * b) (h2 : y ≤ 512 * b - x) (h3 : y ≤ 131072) :
    Calls Try.prog 36 #[.pointer (some ⟨r, 0, none⟩), .int .i64 a, .int .i64 (b : Nat), .int .u64 (x : Nat), .int .u64 (y : Nat)] w (SpanIs (spanL (cOf bs) a x y) w) := by
  have hIB : ∀ x, IsB (cOf bs x) := cOf_is h.isB
  obtain ⟨aL, cL, c0, c1, c2, c3, c4, c5, _, _⟩ := h.cells
  have q1 : ¬ a < 0 := by omega
  have q3 : ¬ N - a < (b : Int) := by omega
  have q5 : ¬ N < a := by omega
  have b1 : 0 ≤ N - a := by omega
  have b2 : N - a ≤ 9223372036854775807 := by omega
  have b3 : (b : Int) ≤ 1048576 := by omega
  have q2 : ¬ (b : Int) < 0 := by omega
  obtain ⟨M, hM⟩ : ∃ M : Nat, 512 * b = M := ⟨_, rfl⟩
  have em : (b : Int) * 512 = (M : Int) := by omega
  have hMl : M ≤ 536870912 := by omega
  have t6 : ¬ (M : Int) < (x : Int) := by omega
  have d1 : 0 ≤ (M : Int) - (x : Int) := by omega
  have t7 : ¬ (M : Int) - (x : Int) < (y : Int) := by omega
  have t8 : ¬ (131072 : Int) < (y : Int) := by omega
  have HR := Lib.hid h
  have HIB := Lib.hid hIB
  have HMM := Lib.hid hM
  clear h hM hIB c1 c4 c5 c3
  unfold SpanIs
  rw [spanL_length]
  go_enter Try.func36, Try.ntmps36
  go_wp2_with fail
  clear q1 q2 q3 q5 b1 b2 b3 em t6 d1 t7 t8 c0 c2
  go_loopw [13] (fun v13 wr => ∃ (k : Nat) (aa : Option Addr) (cp : Nat), v13 = .slice aa k cp ∧ k ≤ y ∧ wr.ownsRow w.heap.size 5 1 (.slice aa k cp) k (bytesV (spanL (cOf bs) a x k)) ∧ Below w.heap.size w wr) (fun v13 _ => y - lenV v13)
  case atStart => exact ⟨0, _, _, rfl, Nat.zero_le _, ⟨rfl, .inl ⟨rfl, rfl⟩⟩, Below.refl _ _⟩
  case round =>
    obtain ⟨k, aa, cp, rfl, hk, hown, hbel⟩ := hrel
    have HO := Lib.hid hown
    have HB := Lib.hid hbel
    clear hown hbel
    have hk1 : (k : Int) ≤ 131072 := by omega
    by_cases hky : k < y
    · obtain ⟨p, hp⟩ : ∃ p, x + k = p := ⟨_, rfl⟩
      obtain ⟨q0, hq0⟩ : ∃ q0, p / 512 = q0 := ⟨_, rfl⟩
      obtain ⟨b0, hb0⟩ : ∃ b0, p % 512 = b0 := ⟨_, rfl⟩
      obtain ⟨s, hs⟩ : ∃ s : Nat, min (512 - b0) (y - k) = s := ⟨_, rfl⟩
      have hky2 : (k : Int) < (y : Int) := by omega
      have hpi : (x : Int) + (k : Int) = (p : Int) := by omega
      have hd : (p : Int) / 512 = (q0 : Int) := by omega
      have hr : (p : Int) % 512 = (b0 : Int) := by omega
      have hmin : min ((512 : Int) - (b0 : Int)) ((y : Int) - (k : Int)) = (s : Int) := by omega
      have hs1 : 0 < s := by omega
      have hs2 : b0 + s ≤ 512 := by omega
      have hq : (q0 : Int) < (b : Int) := by have := HMM.out; omega
      have hp1 : (p : Int) ≤ 1073741824 := by have := HMM.out; omega
      have hks : k + s ≤ y := by omega
      have hkn : k + s ≤ 140737488355328 := by omega
      have hb5 : (b0 : Int) + (s : Int) ≤ 512 := by omega
      have hb6 : 0 ≤ (512 : Int) - (b0 : Int) := by omega
      have hb7 : 0 ≤ (y : Int) - (k : Int) := by omega
      have HST := Lib.hid (span_step (cOf bs) a x k s HIB.out (by rw [hp, hb0]; exact hs2))
      rw [hp, hq0, hb0] at HST
      have HH := Lib.hid (holds_any base r N left many (a + (q0 : Int)) false dn bs wr (HR.out.below HB.out))
      unfold HoldIs at HH
      obtain ⟨l, hl⟩ : ∃ l, cOf bs (a + (q0 : Int)) = l := ⟨_, rfl⟩
      have HLB := Lib.hid (show IsB l from hl ▸ HIB.out _)
      rw [hl] at HH HST
      have HPI := Lib.hid hpi
      clear hp hq0 hb0 hs hl
      go_wp2_with fail
      refine HH.out.mono ?_
      rintro e w4 ⟨a4, c4, rfl, ho4, hb4⟩
      obtain ⟨a5, c5, e5, hb5', _⟩ := own_in ho4 HLB.out.2 (by omega)
      injection e5 with e51 e52 e53
      subst e51 e53
      obtain ⟨a7, hsl, hb7'⟩ := slice_binK .u64 .u64 (x := b0) (y := s) hb5' (by omega) hs2 w4
      have HBN := Lib.hid hb7'
      have HO4 := Lib.hid (own_below HO.out hb4)
      have HB4 := Lib.hid (HB.out.trans (hb4.mono HB.out.size))
      have hsz4 := HB4.out.size
      clear ho4 hb4 hb5' hb7' HH HO HB e52
      go_wp2_with (refine wpList_append_bytes w4 rfl (.tmp 90) (.tmp 96) rfl w.heap.size _ k _ rfl HO4.out a7 s (c4 - b0) _ rfl HBN.out hkn hsz4 ?_)
      intro v' w3 ho3 hg3
      rw [HST.out] at ho3
      obtain ⟨aa2, cp2, rfl, _, _⟩ := own_in ho3 (spanL_lt HIB.out _ _ _) hkn
      have HO3 := Lib.hid ho3
      have HB3 := Lib.hid (show Below w.heap.size w w3 from ⟨hg3.os.trans HB4.out.os, hg3.tape.trans HB4.out.tape, hg3.output.trans HB4.out.output, Nat.le_trans HB4.out.size hg3.size, fun j hj => (hg3.block j (Nat.lt_of_lt_of_le hj HB4.out.size) (fun e => by have := own_ge HO4.out e.symm; omega)).trans (HB4.out.block j hj)⟩)
      obtain ⟨k3, hk3⟩ : ∃ k3, k + s = k3 := ⟨_, rfl⟩
      rw [hk3] at HO3 hks
      try rw [hk3]
      have hkk : k < k3 := by omega
      clear ho3 hg3 HST HBN HO4 HB4 hsl hmin hd hr hk3 hkn hpi
      go_wp2_with fail
      go_roundw
      case rel => exact ⟨k3, _, _, rfl, hks, HO3.out, HB3.out⟩
      case measure => simp [lenV]; omega
    · obtain rfl : k = y := by omega
      clear hky
      go_wp2_with fail
      go_ret2
      exact ⟨aa, cp, rfl, HO.out, HB.out⟩
end Go.Proofs.Ytlgpaglkhgomiaa
