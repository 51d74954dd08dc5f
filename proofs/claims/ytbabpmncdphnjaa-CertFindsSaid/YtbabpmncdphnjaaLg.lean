/- The project's length. No condition. -/
import Derived.Test.YtbabpmncdphnjaaPs
namespace Go.Proofs.Ytbabpmncdphnjaa
open Go.RowKit
set_option linter.unusedVariables false
set_option maxRecDepth 100000

/-- what length answers -/
def LenIs (a : Option Addr) (l : List Nat) (w : World) (e : Ending) (w' : World) : Prop :=
  Below w.heap.size w w' ∧ match lenE l with
  | .error c => e = boom c
  | .ok (v, r) => ∃ B f o c, a = some ⟨B, f, none⟩ ∧ e = .returned (.tuple #[.int .i64 (v : Nat), .slice (some ⟨B, o, none⟩) r.length c]) ∧ BIn w' (some ⟨B, o, none⟩) r.length c r

theorem len_bad (f : Nat) (b : List Nat) (h : ¬ f < 128) (h2 : f = 128 ∨ 131 < f) : lenE (f :: b) = .error 124 := by simp [lenE, h, h2]
theorem len_short (f : Nat) (b : List Nat) (h : ¬ f < 128) (h2 : ¬ (f = 128 ∨ 131 < f)) (h3 : b.length < f - 128) : lenE (f :: b) = .error 122 := by simp [lenE, h, h2, h3]
theorem len_small (f : Nat) (b : List Nat) (h : ¬ f < 128) (h2 : ¬ (f = 128 ∨ 131 < f)) (h3 : ¬ b.length < f - 128) (h4 : b.getD 0 0 = 0 ∨ beV (b.take (f - 128)) < 128) : lenE (f :: b) = .error 124 := by
  simp only [lenE, if_neg h, if_neg h2, if_neg h3, if_pos h4]
theorem len_long (f : Nat) (b : List Nat) (h : ¬ f < 128) (h2 : ¬ (f = 128 ∨ 131 < f)) (h3 : ¬ b.length < f - 128) (h4 : ¬ (b.getD 0 0 = 0 ∨ beV (b.take (f - 128)) < 128)) : lenE (f :: b) = .ok (beV (b.take (f - 128)), b.drop (f - 128)) := by
  simp only [lenE, if_neg h, if_neg h2, if_neg h3, if_neg h4]
theorem wrap64_small (n : Nat) (h : n < 9223372036854775808) : IntKind.i64.wrap (n : Int) = (n : Int) := by
  have e : (n : Int) % 2 ^ 64 = n := Int.emod_eq_of_lt (by omega) (by omega)
  simp only [IntKind.wrap, IntKind.bits, IntKind.signed, e]
  rw [if_neg]
  simp
  omega
theorem i64_or_byte (v x : Nat) (hv : v < 4294967296) (hx : x < 256) : bits .or .i64 ((v : Int) * 256) (x : Int) = ((256 * v + x : Nat) : Int) := by
  have h : bits .or .i64 ((256 * v : Nat) : Int) (x : Int) = ((256 * v ||| x : Nat) : Int) := by
    show IntKind.i64.wrap ((BitVec.ofInt 64 ((256 * v : Nat) : Int) ||| BitVec.ofInt 64 (x : Int)).toNat : Int) = _
    rw [BitVec.toNat_or, ofInt_u64 (256 * v) (by omega), ofInt_u64 x (by omega)]
    exact wrap64_small _ (by rw [nat_join 8 (256 * v) x (by omega) (by omega)]; omega)
  rw [nat_join 8 (256 * v) x (by omega) (by omega)] at h
  rw [← h]; congr 1; omega
theorem LenIs.err {a : Option Addr} {l : List Nat} {w : World} {c : Nat} (h : lenE l = .error c) {w' : World} (hb : Below w.heap.size w w') : LenIs a l w (boom c) w' := by
  refine ⟨hb, ?_⟩; rw [h]
theorem LenIs.good {f : Nat} {l : List Nat} {w : World} {v : Nat} {r : List Nat} (h : lenE l = .ok (v, r)) {w' : World} (hb : Below w.heap.size w w') {B o : Nat} {n c : Nat} (hn : r.length = n) (hi : BIn w' (some ⟨B, o, none⟩) n c r) : LenIs (some ⟨B, f, none⟩) l w (.returned (.tuple #[.int .i64 (v : Nat), .slice (some ⟨B, o, none⟩) n c])) w' := by
  subst hn; refine ⟨hb, ?_⟩; rw [h]; exact ⟨B, f, o, c, rfl, rfl, hi⟩
theorem len_nil : lenE [] = .error 122 := rfl
theorem len_one (f : Nat) (b : List Nat) (h : f < 128) : lenE (f :: b) = .ok (f, b) := by simp [lenE, h]

set_option maxRecDepth 100000 in
set_option maxHeartbeats 4000000 in
theorem length_any (w : World) (a : Option Addr) (n c : Nat) (l : List Nat) (hin : BIn w a n c l) : Calls Try.prog 84 #[.slice a n c] w (LenIs a l w) := by
  have hn : l.length = n := hin.1.1
  have hnm := hin.2.2.2.1
  have hcm := hin.2.2.1
  have hnc := hin.2.1
  cases l with
  | nil =>
    obtain rfl : n = 0 := by simpa using hn.symm
    clear hin hn
    go_enter Try.func84, Try.ntmps84
    go_wp2_with (go_at_call 49; refine (must_f (by first | (simp; omega) | (simp; done) | rfl) _ _).mono ?_; rintro e w' ⟨rfl, rfl⟩)
    exact ⟨rfl, Below.refl _ _, rfl⟩
  | cons f b =>
    obtain ⟨B, off, rfl, hc⟩ := hin.1.2.2.2.resolve_left (by simp at hn; omega)
    have hf : f < 256 := hin.1.2.2.1 f (by simp)
    have c0 := hc 0 (by simp at hn; omega)
    simp at c0
    have HI := Lib.hid hin
    have hn1 : b.length + 1 = n := by simpa using hn
    have HB := Lib.hid (fun (A : Option Addr) (hA : A = some ⟨B, off, none⟩ ∧ n - 1 = 0 ∨ A = some ⟨B, off + 1, none⟩) (cp : Nat) (hcp : cp = c - 1) (w' : World) (hb : Below w.heap.size w w') => (by have := (bin_drop hin (f := 1) (by omega) (by omega) A hA).below hb; rw [hcp]; simpa using this : BIn w' A (n - 1) cp b))
    clear hin hc hn
    have HM := Lib.hid hnm
    have HC := Lib.hid hcm
    clear hnm hcm
    have hn0 : (0 : Int) < (n : Int) := by omega
    have hn2 : (1 : Int) ≤ (n : Int) := by omega
    by_cases h128 : f < 128
    · have h128i : (f : Int) < 128 := by omega
      go_enter Try.func84, Try.ntmps84
      go_wp2_with (go_at_call 49; refine (must_t (by first | (simp; omega) | (simp; done) | rfl) _ _).mono ?_; rintro e w' ⟨rfl, rfl⟩)
      go_quiet (fail)
      go_wp2_with fail
      · go_ret2
        exact LenIs.good (len_one f b h128) (below_drewN (Below.refl _ _) nq) (by omega) (HB.out _ (.inl ⟨rfl, by omega⟩) _ (by omega) _ (below_drewN (Below.refl _ _) nq))
      · go_ret2
        exact LenIs.good (len_one f b h128) (below_drewN (Below.refl _ _) nq) (by omega) (HB.out _ (.inr rfl) _ (by omega) _ (below_drewN (Below.refl _ _) nq))
    · have h128i : ¬ (f : Int) < 128 := by omega
      by_cases hbad : f = 128 ∨ 131 < f
      · go_enter Try.func84, Try.ntmps84
        go_wp2_with (go_at_call 49; refine (must_t (by first | (simp; omega) | (simp; done) | rfl) _ _).mono ?_; rintro e w' ⟨rfl, rfl⟩)
        go_quiet (fail)
        go_wp2_with (first | (go_at_call 49; refine (must_t (by first | (simp; omega) | (simp; done) | rfl) _ _).mono ?_; rintro e w' ⟨rfl, rfl⟩) | (go_at_call 49; refine (must_f (by first | (simp; omega) | (simp; done) | rfl) _ _).mono ?_; rintro e w' ⟨rfl, rfl⟩))
        all_goals exact ⟨rfl, LenIs.err (len_bad f b h128 hbad) (below_drewN (Below.refl _ _) nq)⟩
      · have hm1 : (f : Int) ≠ 128 := by omega
        have hm2 : (f : Int) ≤ 131 := by omega
        obtain ⟨m, rfl⟩ : ∃ m, f = 128 + m := ⟨f - 128, by omega⟩
        have hsub : ((128 + m : Nat) : Int) - 128 = (m : Int) := by omega
        by_cases hsh : b.length < m
        · go_enter Try.func84, Try.ntmps84
          go_wp2_with (go_at_call 49; refine (must_t (by first | (simp; omega) | (simp; done) | rfl) _ _).mono ?_; rintro e w' ⟨rfl, rfl⟩)
          go_quiet (fail)
          go_wp2_with (first | (go_at_call 49; refine (must_t (by first | (simp; omega) | (simp; done) | rfl) _ _).mono ?_; rintro e w' ⟨rfl, rfl⟩) | (go_at_call 49; refine (must_f (by first | (simp; omega) | (simp; done) | rfl) _ _).mono ?_; rintro e w' ⟨rfl, rfl⟩))
          all_goals exact ⟨rfl, LenIs.err (len_short _ b h128 hbad (by omega)) (below_drewN (Below.refl _ _) nq)⟩
        · have hc3 : ¬ c = 1 := by omega
          have hbw := Lib.hid (HB.out _ (.inr rfl) _ rfl)
          have hnn : ∃ n' c', n = n' + 1 ∧ c = c' + 1 := ⟨n - 1, c - 1, by omega, by omega⟩
          obtain ⟨n', c', rfl, rfl⟩ := hnn
          go_enter Try.func84, Try.ntmps84
          go_wp2_with (go_at_call 49; refine (must_t (by first | (simp; omega) | (simp; done) | rfl) _ _).mono ?_; rintro e w' ⟨rfl, rfl⟩)
          go_quiet (fail)
          go_wp2_with (first | (go_at_call 49; refine (must_t (by first | (simp; omega) | (simp; done) | rfl) _ _).mono ?_; rintro e w' ⟨rfl, rfl⟩) | (go_at_call 49; refine (must_f (by first | (simp; omega) | (simp; done) | rfl) _ _).mono ?_; rintro e w' ⟨rfl, rfl⟩))
          go_loopw [6, 42] (fun v i wr => ∃ k : Nat, k ≤ m ∧ i = .int .i64 (k : Nat) ∧ v = .int .i64 (beV (b.take k) : Nat) ∧ Below w.heap.size w wr) (fun _ i _ => m - (intOf i).toNat)
          case atStart => exact ⟨0, Nat.zero_le _, rfl, rfl, below_drewN (Below.refl _ _) nq⟩
          case round =>
            obtain ⟨k, hk, rfl, rfl, hbel⟩ := hrel
            have hbr := hbw.out _ hbel
            have hlt : ∀ i, b.getD i 0 < 256 := getD_lt hbr.1.2.2.1
            have HV : beV (b.take k) < 256 ^ k := by
              have := beV_lt (b.take k) (fun x hx => hbr.1.2.2.1 x (List.mem_of_mem_take hx))
              rwa [List.length_take, Nat.min_eq_left (by omega)] at this
            have HV2 : beV (b.take k) < 16777216 := Nat.lt_of_lt_of_le HV (Nat.pow_le_pow_right (n := 256) (i := k) (j := 3) (by omega) (by omega))
            clear HV
            by_cases hkm : k < m
            · have hki : (k : Int) < (m : Int) := by omega
              obtain ⟨B', o', hE, hcell⟩ := hbr.1.2.2.2.resolve_left (by omega)
              injection hE with hE
              injection hE with e1 e2
              subst e1 e2
              have ck := hcell k (by omega)
              have hx := hlt k
              have hs := beV_snoc (b.take k) (b.getD k 0)
              rw [← take_snoc b k (by omega)] at hs
              have HS := Lib.hid hs
              clear hbr hlt hcell hs
              generalize hv : beV (b.take k) = v at *
              generalize b.getD k 0 = x at *
              have ho := i64_or_byte v x (by omega) hx
              go_wp2_with fail
              go_roundw
              case rel => exact ⟨k + 1, by omega, by go_num, by rw [HS.out]; go_num, hbel⟩
              case measure => simp [intOf]; omega
            · obtain rfl : k = m := by omega
              have hk0 : 0 < k := by omega
              obtain ⟨B', o', hE, hcell⟩ := hbr.1.2.2.2.resolve_left (by omega)
              injection hE with hE
              injection hE with e1 e2
              subst e1 e2
              have ck := hcell 0 (by omega)
              rw [Nat.add_zero] at ck
              have hx := hlt 0
              have hki : ¬ (k : Int) < (k : Int) := by omega
              have HR := Lib.hid hbr
              clear hcell hlt hbr
              by_cases hgood : b.getD 0 0 = 0 ∨ beV (b.take k) < 128
              · have hE := len_small (128 + k) b h128 hbad (by omega) (by rw [show 128 + k - 128 = k by omega]; exact hgood)
                have HE := Lib.hid hE
                clear hE
                generalize beV (b.take k) = v at *
                generalize b.getD 0 0 = x at *
                have hb : ((x : Int) != 0 && decide ((128 : Int) ≤ (v : Int))) = false := by
                  rw [Bool.and_eq_false_iff]; simp; omega
                go_wp2_with (go_at_call 49; refine (must_f (by first | (simp; omega) | (simp; done) | rfl) _ _).mono ?_; rintro e w' ⟨rfl, rfl⟩)
                all_goals exact ⟨rfl, LenIs.err HE.out hbel⟩
              · have hE := len_long (128 + k) b h128 hbad (by omega) (by rw [show 128 + k - 128 = k by omega]; exact hgood)
                rw [show 128 + k - 128 = k by omega] at hE
                have HE := Lib.hid hE
                clear hE
                generalize beV (b.take k) = v at *
                generalize b.getD 0 0 = x at *
                have hx0 : (x : Int) ≠ 0 := by omega
                have hv0 : (128 : Int) ≤ (v : Int) := by omega
                go_wp2_with (go_at_call 49; refine (must_t (by first | (simp; omega) | (simp; done) | rfl) _ _).mono ?_; rintro e w' ⟨rfl, rfl⟩)
                go_quiet (fail)
                go_wp2
                · go_ret2
                  have e1 : c' = k := by omega
                  exact LenIs.good HE.out (below_drewN hbel nq) (by simp; omega) (by have := (bin_drop HR.out (f := k) (by omega) (by omega) (some ⟨B, off + 1, none⟩) (.inl ⟨rfl, by omega⟩)).below (below_drewN (Below.refl _ _) nq); simp only [Nat.add_sub_cancel] at this; rwa [show c' - k = 0 by omega] at this)
                · go_ret2
                  exact LenIs.good HE.out (below_drewN hbel nq) (by simp; omega) (by have := (bin_drop HR.out (f := k) (by omega) (by omega) (some ⟨B, off + 1 + k, none⟩) (.inr rfl)).below (below_drewN (Below.refl _ _) nq); simpa only [Nat.add_sub_cancel] using this)
end Go.Proofs.Ytbabpmncdphnjaa
