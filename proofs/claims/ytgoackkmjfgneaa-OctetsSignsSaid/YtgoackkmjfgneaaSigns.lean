/- OctetsSigns answers true for every number and every width: Sign and Narrow give the document's answer, and each takes the other back; nothing in memory is changed. No condition. -/
import Derived.Test.YtgoackkmjfgneaaFrame
import Derived.Test.YtgoackkmjfgneaaNum
import Derived.Test.YtgoackkmjfgneaaAlive
namespace Go.Proofs.Ytgoackkmjfgneaa.octetsSigns
open Go.ChangeShapes Go.WideShapes Go.ChangeAt Go.RowKit
open Go.ChangeMaps (open_string shut_string)
set_option linter.unusedVariables false

/-- both Sign functions answer so -/
def SignIs (v b x e : Int) : Prop := ∀ w, Calls Try.prog 26 #[.int .u64 v, .int .i64 b] w (fun en w' => en = .returned (.tuple #[.int .i64 x, .int .i64 e]) ∧ w = w') ∧ Calls Try.prog 28 #[.int .u64 v, .int .i64 b] w (fun en w' => en = .returned (.tuple #[.int .i64 x, .int .i64 e]) ∧ w = w')
/-- both Narrow functions answer so -/
def NarrowIs (n b x e : Int) : Prop := ∀ w, Calls Try.prog 27 #[.int .i64 n, .int .i64 b] w (fun en w' => en = .returned (.tuple #[.int .u64 x, .int .i64 e]) ∧ w = w') ∧ Calls Try.prog 29 #[.int .i64 n, .int .i64 b] w (fun en w' => en = .returned (.tuple #[.int .u64 x, .int .i64 e]) ∧ w = w')

set_option maxHeartbeats 800000 in
theorem walk8 (v n b a e a' f : Int) (hs : SignIs v b a e) (hn : NarrowIs n b a' f) (h1 : e = 0 → NarrowIs a b v 0) (h2 : f = 0 → SignIs a' b n 0) (w : World) :
    Calls Try.prog 8 #[.int .u64 v, .int .i64 n, .int .i64 b] w fun e w' => e = .returned (.bool true) ∧ Below w.heap.size w w' := by
  have H1 := Lib.hid h1
  have H2 := Lib.hid h2
  clear h1 h2
  by_cases he : e = 0 <;> by_cases hf : f = 0
  · have N := H1.out he
    have S := H2.out hf
    subst he hf
    clear H1 H2
    go_enter Try.func8, Try.ntmps8
    go_wp2_with fail
    refine (hs _).1.mono ?_
    rintro e w' ⟨rfl, rfl⟩
    go_wp2_with fail
    refine (hn _).1.mono ?_
    rintro e w' ⟨rfl, rfl⟩
    go_wp2_with fail
    refine (hs _).2.mono ?_
    rintro e w' ⟨rfl, rfl⟩
    go_wp2_with fail
    refine (hn _).2.mono ?_
    rintro e w' ⟨rfl, rfl⟩
    go_wp2_with fail
    refine (alive17 _).mono ?_
    rintro e w1 ⟨rfl, hb⟩
    go_wp2_with fail
    refine (N _).1.mono ?_
    rintro e w' ⟨rfl, rfl⟩
    go_wp2_with fail
    refine (S _).1.mono ?_
    rintro e w' ⟨rfl, rfl⟩
    go_wp2_with fail
    go_ret
    exact ⟨rfl, hb⟩
  · have N := H1.out he
    subst he
    have hf' : (f == 0) = false := by simpa using hf
    clear H1 H2 hf
    go_enter Try.func8, Try.ntmps8
    go_wp2_with fail
    refine (hs _).1.mono ?_
    rintro e w' ⟨rfl, rfl⟩
    go_wp2_with fail
    refine (hn _).1.mono ?_
    rintro e w' ⟨rfl, rfl⟩
    go_wp2_with fail
    refine (hs _).2.mono ?_
    rintro e w' ⟨rfl, rfl⟩
    go_wp2_with fail
    refine (hn _).2.mono ?_
    rintro e w' ⟨rfl, rfl⟩
    go_wp2_with fail
    refine (alive17 _).mono ?_
    rintro e w1 ⟨rfl, hb⟩
    go_wp2_with fail
    refine (N _).1.mono ?_
    rintro e w' ⟨rfl, rfl⟩
    go_wp2_with fail
    go_ret
    exact ⟨rfl, hb⟩
  · have S := H2.out hf
    subst hf
    have he' : (e == 0) = false := by simpa using he
    clear H1 H2 he
    go_enter Try.func8, Try.ntmps8
    go_wp2_with fail
    refine (hs _).1.mono ?_
    rintro e w' ⟨rfl, rfl⟩
    go_wp2_with fail
    refine (hn _).1.mono ?_
    rintro e w' ⟨rfl, rfl⟩
    go_wp2_with fail
    refine (hs _).2.mono ?_
    rintro e w' ⟨rfl, rfl⟩
    go_wp2_with fail
    refine (hn _).2.mono ?_
    rintro e w' ⟨rfl, rfl⟩
    go_wp2_with fail
    refine (alive17 _).mono ?_
    rintro e w1 ⟨rfl, hb⟩
    go_wp2_with fail
    refine (S _).1.mono ?_
    rintro e w' ⟨rfl, rfl⟩
    go_wp2_with fail
    go_ret
    exact ⟨rfl, hb⟩
  · have he' : (e == 0) = false := by simpa using he
    have hf' : (f == 0) = false := by simpa using hf
    clear H1 H2 he hf
    go_enter Try.func8, Try.ntmps8
    go_wp2_with fail
    refine (hs _).1.mono ?_
    rintro e w' ⟨rfl, rfl⟩
    go_wp2_with fail
    refine (hn _).1.mono ?_
    rintro e w' ⟨rfl, rfl⟩
    go_wp2_with fail
    refine (hs _).2.mono ?_
    rintro e w' ⟨rfl, rfl⟩
    go_wp2_with fail
    refine (hn _).2.mono ?_
    rintro e w' ⟨rfl, rfl⟩
    go_wp2_with fail
    refine (alive17 _).mono ?_
    rintro e w1 ⟨rfl, hb⟩
    go_wp2_with fail
    go_ret
    exact ⟨rfl, hb⟩

theorem sign_low {v c : Nat} (h2 : c ≤ 63) (h : v < 2 ^ c) : SignIs v ((c + 1 : Nat) : Int) v 0 := by
  have := two_pow_c h2
  exact fun w => ⟨sign26_low v c w h2 h (by omega), sign28_low v c w h2 h (by omega)⟩
theorem sign_high {v c : Nat} {x : Int} (h2 : c ≤ 63) (h : 2 ^ c ≤ v) (h' : v < 2 ^ (c + 1)) (hx : x = (v : Int) - ((2 ^ (c + 1) : Nat) : Int)) : SignIs v ((c + 1 : Nat) : Int) x 0 := by
  have hp := two_pow_c h2
  have h3 := h'
  rw [Nat.pow_succ] at h3
  subst hx
  exact fun w => ⟨sign26_high v c w h2 h h' (by omega), sign28_high v c w h2 h h' (by omega)⟩
theorem narrow_pos {n : Int} {c : Nat} (h2 : c ≤ 63) (h0 : 0 ≤ n) (h : n < ((2 ^ c : Nat) : Int)) : NarrowIs n ((c + 1 : Nat) : Int) n 0 := by
  have hp := two_pow_c h2
  exact fun w => ⟨narrow27_pos n c (2 ^ c) w h2 rfl h0 h (by omega), narrow29_pos n c (2 ^ c) w h2 rfl h0 h (by omega)⟩
theorem narrow_neg {n x : Int} {c : Nat} (h2 : c ≤ 63) (h0 : n < 0) (h : -((2 ^ c : Nat) : Int) ≤ n) (hx : x = n + ((2 ^ (c + 1) : Nat) : Int)) : NarrowIs n ((c + 1 : Nat) : Int) x 0 := by
  rw [Nat.pow_succ] at hx
  subst hx
  exact fun w => ⟨narrow27_neg n c (2 ^ c) w h2 rfl h0 h, narrow29_neg n c (2 ^ c) w h2 rfl h0 h⟩

/-- every number has an answer, and it is taken back -/
theorem sign_all (v c : Nat) (h2 : c ≤ 63) (hv : v ≤ 18446744073709551615) : ∃ a e, SignIs v ((c + 1 : Nat) : Int) a e ∧ (e = 0 → NarrowIs a ((c + 1 : Nat) : Int) v 0) := by
  have hp := two_pow_c h2
  have hs : 2 ^ (c + 1) = 2 ^ c * 2 := Nat.pow_succ ..
  by_cases h : v < 2 ^ c
  · exact ⟨v, 0, sign_low h2 h, fun _ => narrow_pos h2 (by omega) (by omega)⟩
  · by_cases h' : v < 2 ^ (c + 1)
    · exact ⟨_, 0, sign_high h2 (by omega) h' rfl, fun _ => narrow_neg h2 (by omega) (by omega) (by omega)⟩
    · exact ⟨0, 12, fun w => ⟨sign26_range v (c + 1) w (by omega) (by omega) (by omega) hv, sign28_range v (c + 1) w (by omega) (by omega) (by omega) hv⟩, fun h => by cases h⟩
theorem narrow_all (n : Int) (c : Nat) (h2 : c ≤ 63) (hn : -9223372036854775808 ≤ n) (hn' : n ≤ 9223372036854775807) : ∃ a f, NarrowIs n ((c + 1 : Nat) : Int) a f ∧ (f = 0 → SignIs a ((c + 1 : Nat) : Int) n 0) := by
  have hp := two_pow_c h2
  have hs : 2 ^ (c + 1) = 2 ^ c * 2 := Nat.pow_succ ..
  by_cases h : n < -((2 ^ c : Nat) : Int) ∨ ((2 ^ c : Nat) : Int) ≤ n
  · exact ⟨0, 12, fun w => ⟨narrow27_range n c _ w h2 rfl h hn hn', narrow29_range n c _ w h2 rfl h hn hn'⟩, fun h => by cases h⟩
  · by_cases h0 : 0 ≤ n
    · obtain ⟨m, rfl⟩ := Int.eq_ofNat_of_zero_le h0
      exact ⟨m, 0, narrow_pos h2 h0 (by omega), fun _ => sign_low h2 (by omega)⟩
    · refine ⟨_, 0, narrow_neg h2 (by omega) (by omega) rfl, fun _ => ?_⟩
      obtain ⟨m, hm⟩ := Int.eq_ofNat_of_zero_le (a := n + ((2 ^ (c + 1) : Nat) : Int)) (by omega)
      rw [hm]
      exact sign_high h2 (by omega) (by omega) (by omega)

theorem walk (a0 : Int) (a1 : Int) (a2 : Int) (w0 : (Lit.int .u64 a0).wf = true) (w1 : (Lit.int .i64 a1).wf = true) (w2 : (Lit.int .i64 a2).wf = true) (w : World) :
    Calls Try.prog 8 #[.int .u64 a0, .int .i64 a1, .int .i64 a2] w fun e w' => e = .returned (.bool true) ∧ Below w.heap.size w w' := by
  have b0 := bounds_u64 w0
  have b1 := bounds_i64 w1
  obtain ⟨v, rfl⟩ := Int.eq_ofNat_of_zero_le b0.1
  by_cases hb : a2 < 1 ∨ 64 < a2
  · exact walk8 v a1 a2 0 1 0 1 (fun w => ⟨sign26_arg v a2 w hb, sign28_arg v a2 w hb⟩) (fun w => ⟨narrow27_arg a1 a2 w hb, narrow29_arg a1 a2 w hb⟩) (fun h => by cases h) (fun h => by cases h) w
  · obtain ⟨c, rfl⟩ : ∃ c : Nat, a2 = ((c + 1 : Nat) : Int) := ⟨(a2 - 1).toNat, by omega⟩
    obtain ⟨a, e, h1, h2⟩ := sign_all v c (by omega) (by omega)
    obtain ⟨a', f, h3, h4⟩ := narrow_all a1 c (by omega) (by omega) (by omega)
    exact walk8 v a1 _ a e a' f h1 h3 h2 h4 w

/-! ### THE ROW's STEP: WRITTEN OUT: LEAVE IT -/
set_option maxRecDepth 100000 in
theorem lifted (os : Os) (started : os.Started) (H : Type) (enc : TypeId × Value → H) :
    ReturnsInHanded {} Try.checked os 8 .any (Rows.octetsSignsSpec.pre6 enc Try.prog Try.f8 Rows.octetsSignsRow.domain false) (Rows.octetsSignsSpec.post enc Try.prog Try.f8 false true false false) := by
  refine returnsInHanded_of_change (C := Try.checked) own started (by kernel_rfl) Try.func8
    (ChangeSpec.witness6 (enc := enc) (C := Try.checked) false ⟨#[], #[.int .u64 0, .int .i64 0, .int .i64 0], []⟩ 8 (by kernel_rfl) (by kernel_rfl) (by kernel_rfl) (by kernel_rfl)) ?_
  intro W base args ds gs before hval0 hW hcnd _
  have hval : ∀ (j : Nat) t v, Try.f8.params[j]? = some t → args[j]? = some v → Value.okWide Try.prog W .any base t v := hval0
  have hW' := hW
  obtain ⟨p, q, hA0, hV, rfl, hfz, hnd⟩ := hW
  have hA : DataW.TrodAll enc Try.prog W 0 (fun _ => true) true Try.f8.params.toList args.toList ds p := hA0
  rw [Try.params8] at hA hval
  obtain ⟨v0, vs0, d0, ds0, p0, q0, hargs, rfl, rfl, h0, r0⟩ := trodAll_cons hA
  obtain ⟨v1, vs1, d1, ds1, p1, q1, rfl, rfl, rfl, h1, r1⟩ := trodAll_cons r0
  obtain ⟨v2, vs2, d2, ds2, p2, q2, rfl, rfl, rfl, h2, r2⟩ := trodAll_cons r1
  obtain ⟨rfl, rfl, rfl⟩ := trodAll_nil r2
  obtain rfl : args = #[v0, v1, v2] := by cases args; simp_all
  obtain ⟨rfl, rfl⟩ := trodVars_none hV
  obtain ⟨a0, rfl, rfl, rfl, w0⟩ := open_int Try.underlying23 (hval 0 23 v0 rfl rfl) h0
  obtain ⟨a1, rfl, rfl, rfl, w1⟩ := open_int Try.underlying2 (hval 1 2 v1 rfl rfl) h1
  obtain ⟨a2, rfl, rfl, rfl, w2⟩ := open_int Try.underlying3 (hval 2 3 v2 rfl rfl) h2
  clear hA0 hval0
  refine (walk a0 a1 a2 w0 w1 w2 W).mono fun e W' ⟨he, bel⟩ => ?_
  subst he
  exact ⟨_, rfl, _, _, _, [], _, [], hW', trodAll_mk1 (shut_bool Try.underlying4 _), (trodAll_cons_mk (shut_int Try.underlying23 w0) (trodAll_cons_mk (shut_int Try.underlying2 w1) (trodAll_cons_mk (shut_int Try.underlying3 w2) trodAll_mk0))), rfl, bel.frame _, fun h => by cases h⟩

theorem over : Rows.octetsSignsRow.holds Try.pinned (OpenSpec.ofChange Rows.octetsSignsSpec) :=
  OpenClaim.holds_of_wide 8 Try.f8 rfl rfl rfl rfl rfl rfl rfl ⟨rfl, rfl, rfl, rfl, rfl⟩ rfl rfl rfl rfl rfl (by kernel_rfl) Try.func8 (by kernel_rfl)
    (of_decide_eq_true (by kernel_rfl)) (by unfold Func.isWrapper; first | (rw [if_pos (by decide +kernel)]; kernel_rfl) | (rw [if_neg (by decide +kernel)]; exact ⟨rfl, rfl⟩))
    (fun os started H enc _ => lifted os started H enc)

/-- ████ THE STATEMENT ████ -/
theorem proved : Rows.OctetsSignsSaid :=
  over
#print axioms proved
end Go.Proofs.Ytgoackkmjfgneaa.octetsSigns
