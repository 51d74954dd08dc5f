/- The document's length. No condition. -/
import Derived.Test.YtbabpmncdphnjaaLg
namespace Go.Proofs.Ytbabpmncdphnjaa
open Go.RowKit
set_option linter.unusedVariables false
set_option maxRecDepth 100000

/-- what the document's length answers: the number and the place behind it -/
def LenAt (R : Except Nat (Nat × List Nat)) (en : Nat) (w : World) (e : Ending) (w' : World) : Prop :=
  Below w.heap.size w w' ∧ match R with
  | .error c => e = .returned (.tuple #[.int .i64 0, .int .i64 0, .int .i64 (c : Nat)])
  | .ok (v, r) => e = .returned (.tuple #[.int .i64 (v : Nat), .int .i64 ((en - r.length : Nat) : Int), .int .i64 0])
theorem LenAt.err {R : Except Nat (Nat × List Nat)} {en c : Nat} {w w' : World} (h : R = .error c) (hb : Below w.heap.size w w') : LenAt R en w (.returned (.tuple #[.int .i64 0, .int .i64 0, .int .i64 (c : Nat)])) w' := by subst h; exact ⟨hb, rfl⟩
theorem LenAt.good {R : Except Nat (Nat × List Nat)} {en v : Nat} {r : List Nat} {w w' : World} {x : Int} (h : R = .ok (v, r)) (hb : Below w.heap.size w w') (hx : ((en - r.length : Nat) : Int) = x) : LenAt R en w (.returned (.tuple #[.int .i64 (v : Nat), .int .i64 x, .int .i64 0])) w' := by subst h hx; exact ⟨hb, rfl⟩
/-- a window's head -/
theorem win_cons {l : List Nat} {p en : Nat} (h : p < en) (hl : en ≤ l.length) : (l.take en).drop p = l.getD p 0 :: (l.take en).drop (p + 1) := by
  rw [List.drop_eq_getElem_cons (by simp; omega)]
  congr 1
  rw [List.getElem_take, List.getD_eq_getElem?_getD, List.getElem?_eq_getElem (by omega)]; rfl
theorem win_get {l : List Nat} {p en j : Nat} (h : p + j < en) : ((l.take en).drop p).getD j 0 = l.getD (p + j) 0 := by
  rw [List.getD_eq_getElem?_getD, List.getElem?_drop, List.getElem?_take_of_lt h, ← List.getD_eq_getElem?_getD]
theorem win_len {l : List Nat} {p en : Nat} (hl : en ≤ l.length) : ((l.take en).drop p).length = en - p := by simp; omega

set_option maxRecDepth 100000 in
set_option maxHeartbeats 4000000 in
theorem refLen_any (w : World) (a : Option Addr) (n c : Nat) (l : List Nat) (hin : BIn w a n c l) (p en : Nat) (he : en ≤ n) (hn : n ≤ 1048576) (hp : p ≤ 1048576) :
    Calls Try.prog 81 #[.slice a n c, .int .i64 (p : Nat), .int .i64 (en : Nat)] w (LenAt (lenE ((l.take en).drop p)) en w) := by
  have hln : l.length = n := hin.1.1
  by_cases hpe : en ≤ p
  · have hX := Lib.hid (show lenE ((l.take en).drop p) = .error 122 by rw [List.drop_eq_nil_of_le (by simp; omega)]; rfl)
    have hpi : (en : Int) ≤ (p : Int) := by omega
    clear hin
    go_enter Try.func81, Try.ntmps81
    go_wp2
    go_ret3
    exact LenAt.err hX.out (Below.refl _ _)
  · have hpi : ¬ (en : Int) ≤ (p : Int) := by omega
    have hpn : (p : Int) < (n : Int) := by omega
    obtain ⟨B, off, rfl, hc⟩ := hin.1.2.2.2.resolve_left (by omega)
    have hl8 : ∀ i, l.getD i 0 < 256 := getD_lt hin.1.2.2.1
    have HL8 := Lib.hid hl8
    have hC := Lib.hid (fun (i : Nat) (hi : i < n) => hc i hi)
    have c0 : w.cell? ⟨B, off + p, none⟩ = some (.int .u8 (l.getD p 0 : Nat)) := hc p (by omega)
    have hW := win_cons (l := l) (p := p) (en := en) (by omega) (by omega)
    have hBL := win_len (l := l) (p := p + 1) (en := en) (by omega)
    have HG := Lib.hid (fun (j : Nat) (hj : p + 1 + j < en) => win_get (l := l) (p := p + 1) (en := en) (j := j) hj)
    have hB8 : ∀ x ∈ (l.take en).drop (p + 1), x < 256 := fun x hx => hin.1.2.2.1 x (List.mem_of_mem_take (List.mem_of_mem_drop hx))
    have HB8 := Lib.hid hB8
    rw [hW]
    have hf := hl8 p
    clear hin hc hW hl8 hB8
    generalize (l.take en).drop (p + 1) = b at *
    generalize l.getD p 0 = f at *
    by_cases h128 : f < 128
    · have h128i : (f : Int) < 128 := by omega
      have hX := Lib.hid (len_one f b h128)
      go_enter Try.func81, Try.ntmps81
      go_wp2
      go_ret3
      exact LenAt.good hX.out (Below.refl _ _) (by omega)
    · have h128i : ¬ (f : Int) < 128 := by omega
      by_cases hbad : f = 128 ∨ 131 < f
      · have hX := Lib.hid (len_bad _ b h128 hbad)
        rcases hbad with hb | hb
        · subst hb
          go_enter Try.func81, Try.ntmps81
          go_wp2
          go_ret3
          exact LenAt.err hX.out (Below.refl _ _)
        · have hm0 : ¬ (f : Int) - 128 = 0 := by omega
          have hm3 : (3 : Int) < (f : Int) - 128 := by omega
          go_enter Try.func81, Try.ntmps81
          go_wp2
          go_ret3
          exact LenAt.err hX.out (Below.refl _ _)
      · have hm0 : ¬ (f : Int) - 128 = 0 := by omega
        have hm3 : ¬ (3 : Int) < (f : Int) - 128 := by omega
        by_cases hsh : b.length < f - 128
        · have hX := Lib.hid (len_short _ b h128 hbad hsh)
          have hsi : (en : Int) - (p : Int) - 1 < (f : Int) - 128 := by omega
          go_enter Try.func81, Try.ntmps81
          go_wp2
          go_ret3
          exact LenAt.err hX.out (Below.refl _ _)
        · have hsi : ¬ (en : Int) - (p : Int) - 1 < (f : Int) - 128 := by omega
          have HX := Lib.hid (len_long f b h128 hbad hsh)
          have HY := Lib.hid (len_small f b h128 hbad hsh)
          obtain ⟨m, hfm⟩ : ∃ m, m = f - 128 := ⟨_, rfl⟩
          have HFM := Lib.hid hfm
          have hmi : (f : Int) - 128 = (m : Int) := by omega
          have hm13 : 1 ≤ m ∧ m ≤ 3 := by omega
          have hb1 : ((m : Int) == 0) = false := by rw [beq_eq_false_iff_ne]; omega
          have hb2 : decide ((3 : Int) < (m : Int)) = false := by simp; omega
          have hb3 : ¬ (en : Int) - (p : Int) - 1 < (m : Int) := by omega
          clear hm3 hm0 hsi
          have hbm : m ≤ b.length := by omega
          rw [← hfm] at HX HY
          clear hfm hsh hbad
          go_enter Try.func81, Try.ntmps81
          go_wp2
          go_loopw [11, 12] (fun v i wr => ∃ k : Nat, k ≤ m ∧ i = .int .i64 ((k : Int) + 1) ∧ v = .int .i64 (beV (b.take k) : Nat) ∧ w = wr) (fun _ i _ => m + 1 - (intOf i).toNat)
          case atStart => exact ⟨0, Nat.zero_le _, rfl, rfl, rfl⟩
          case round =>
            obtain ⟨k, hk, rfl, rfl, rfl⟩ := hrel
            have HV : beV (b.take k) < 256 ^ k := by
              have := beV_lt (b.take k) (fun x hx => HB8.out x (List.mem_of_mem_take hx))
              rwa [List.length_take, Nat.min_eq_left (by omega)] at this
            have HV2 : beV (b.take k) < 16777216 := Nat.lt_of_lt_of_le HV (Nat.pow_le_pow_right (n := 256) (i := k) (j := 3) (by omega) (by omega))
            clear HV
            by_cases hkm : k < m
            · have hki : (k : Int) + 1 ≤ (m : Int) := by omega
              have ck := hC.out (p + 1 + k) (by omega)
              rw [← HG.out k (by omega)] at ck
              have hx : b.getD k 0 < 256 := getD_lt HB8.out k
              have hs := beV_snoc (b.take k) (b.getD k 0)
              rw [← take_snoc b k (by omega)] at hs
              have HS := Lib.hid hs
              clear hs
              generalize hv : beV (b.take k) = v at *
              generalize b.getD k 0 = x at *
              have ck2 : w.cell? ⟨B, off + (p + (k + 1)), none⟩ = some (.int .u8 (x : Nat)) := by rw [show p + (k + 1) = p + 1 + k by omega]; exact ck
              clear ck
              have hpk : (p : Int) + ((k : Int) + 1) < (n : Int) := by omega
              go_wp2_with fail
              go_roundw
              case rel => exact ⟨k + 1, by omega, by go_num, by rw [HS.out]; go_num, trivial⟩
              case measure => simp [intOf]; omega
            · obtain rfl : k = m := by omega
              have hki : ¬ (k : Int) + 1 ≤ (k : Int) := by omega
              have c1 := hC.out (p + 1 + 0) (by omega)
              rw [← HG.out 0 (by omega)] at c1
              have c2 : w.cell? ⟨B, off + (p + 1), none⟩ = some (.int .u8 (b.getD 0 0 : Nat)) := c1
              have hx : b.getD 0 0 < 256 := getD_lt HB8.out 0
              have hp1 : (p : Int) + 1 < (n : Int) := by omega
              have HLD := Lib.hid (show (b.drop k).length = b.length - k by simp)
              clear c1
              generalize beV (b.take k) = v at *
              generalize b.getD 0 0 = x at *
              by_cases hx0 : x = 0
              · have hX := Lib.hid (HY.out (.inl hx0))
                have hxb : ((x : Int) == 0) = true := by rw [hx0]; rfl
                go_wp2
                go_ret3
                exact LenAt.err hX.out (Below.refl _ _)
              · have hxb : ((x : Int) == 0) = false := by rw [beq_eq_false_iff_ne]; omega
                by_cases hv : v < 128
                · have hX := Lib.hid (HY.out (.inr hv))
                  have hvb : decide ((v : Int) < 128) = true := by simp; omega
                  go_wp2
                  go_ret3
                  exact LenAt.err hX.out (Below.refl _ _)
                · have hX := Lib.hid (HX.out (by omega))
                  have hvb : decide ((v : Int) < 128) = false := by simp; omega
                  go_wp2
                  go_ret3
                  exact LenAt.good hX.out (Below.refl _ _) (by rw [HLD.out]; omega)
end Go.Proofs.Ytbabpmncdphnjaa
