/- OctetsNumbers answers true for every list, place, size, order and number: Get and Put give the document's answers, and the list that was handed in stays; nothing that was in memory is changed. No condition. -/
import Derived.Test.YtgoackkmjfgneaaFramePl
import Derived.Test.YtgoackkmjfgneaaPlace
import Derived.Test.YtgoackkmjfgneaaAlive
namespace Go.Proofs.Ytgoackkmjfgneaa.octetsNumbers
open Go.ChangeShapes Go.WideShapes Go.ChangeAt Go.RowKit Go.Joins
set_option linter.unusedVariables false

theorem below_drewN {B : Nat} {a w : World} (h : Below B a w) (n : Nat) : Below B a (w.drewN n) := ⟨h.os, h.tape, h.output, h.size, h.block⟩

set_option maxHeartbeats 1000000 in
theorem walk3_nil (a0 : Option Addr) (n c : Nat) (l : List Nat) (p size : Int) (big : Bool) (v x e f : Int) (w : World) (hb : BIn w a0 n c l) (hn : n ≤ 140737488355326)
    (hg : GetIs n l p size big x e) (hp : PutNil n l p size big v f) :
    Calls Try.prog 3 #[.agg #[.slice a0 n c, .int .i64 p, .int .i64 size, .bool big, .int .u64 v]] w fun e w' => e = .returned (.bool true) ∧ Below w.heap.size w w' := by
  have HB := Lib.hid hb
  have HG := Lib.hid hg
  have HP := Lib.hid hp
  have HLN := Lib.hid hb.1.1
  clear hb hg hp
  go_enter Try.func3, Try.ntmps3
  go_wp2_with fail
  go_quiet (fail)
  have hb1 : Below w.heap.size w ((w.alloc (.cells #[.slice a0 n c, .int .i64 p, .int .i64 size, .bool big, .int .u64 v] 25)).drewN nq) := below_drewN ((Below.refl _ _).alloc (Nat.le_refl _) _) nq
  generalize (w.alloc (.cells #[.slice a0 n c, .int .i64 p, .int .i64 size, .bool big, .int .u64 v] 25)).drewN nq = w1 at *
  have HB1 := Lib.hid (HB.out.below hb1)
  go_wp2_with fail
  refine (lent10 a0 n c l w1 HB1.out hn).mono ?_
  rintro en w2 ⟨g, cu, rfl, hlent, hb2⟩
  have HL2 := Lib.hid hlent
  have HU2 := Lib.hid (hlent.row HB1.out.1.2.2.1 (by omega) HLN.out)
  have HB2 := Lib.hid (HB1.out.below hb2)
  clear hlent
  go_wp2_with fail
  refine (HG.out w2 _ cu HU2.out).1.mono ?_
  rintro en w' ⟨rfl, rfl⟩
  go_wp2_with fail
  refine (HP.out w2 _ cu HU2.out).1.mono ?_
  rintro en w3 ⟨rfl, hb3⟩
  have HB3 := Lib.hid (HB2.out.below hb3)
  go_wp2_with fail
  refine (HG.out w3 a0 c HB3.out).2.mono ?_
  rintro en w' ⟨rfl, rfl⟩
  go_wp2_with fail
  refine (HP.out w3 a0 c HB3.out).2.mono ?_
  rintro en w4 ⟨rfl, hb4⟩
  go_wp2_with fail
  refine (same15 none none 0 0 0 [] w4 ⟨rfl, Nat.zero_le _, by simp, .inl rfl⟩ ⟨rfl, Nat.zero_le _, by simp, .inl rfl⟩).mono ?_
  rintro en w5 ⟨rfl, hb5⟩
  have hb35 : Below w3.heap.size w3 w5 := hb4.trans (hb5.mono hb4.size)
  have HB5 := Lib.hid (HB3.out.below hb35)
  have HL5 := Lib.hid ((HL2.out.below hb3).below hb35)
  go_wp2_with fail
  refine (kept16 _ g n cu a0 c l w5 HL5.out HB5.out hn).mono ?_
  rintro en w6 ⟨rfl, hb6⟩
  have HB6 := Lib.hid (HB5.out.below hb6)
  have HL6 := Lib.hid (HL5.out.below hb6)
  go_wp2_with fail
  go_loop [19] (fun i => i = .int .i64 0) (fun i => 0)
  case atStart => rfl
  case round =>
    subst hrel
    go_wp2_with fail
    refine (kept16 _ g n cu a0 c l w6 HL6.out HB6.out hn).mono ?_
    rintro en w7 ⟨rfl, hb7⟩
    go_wp2_with fail
    refine (alive17 w7).mono ?_
    rintro en w8 ⟨rfl, hb8⟩
    go_wp2_with fail
    go_ret
    have s1 := hb1.size
    have s2 := hb2.size
    have s3 := hb3.size
    have s5 := hb35.size
    have s6 := hb6.size
    have s7 := hb7.size
    exact ⟨rfl, (((((hb1.trans (hb2.mono (by omega))).trans (hb3.mono (by omega))).trans (hb35.mono (by omega))).trans (hb6.mono (by omega))).trans (hb7.mono (by omega))).trans (hb8.mono (by omega))⟩

set_option maxHeartbeats 1000000 in
theorem walk3_list (a0 : Option Addr) (n c : Nat) (l : List Nat) (p size : Int) (big : Bool) (v x e : Int) (L : List Nat) (w : World) (hb : BIn w a0 n c l) (hn : n ≤ 140737488355326)
    (hg : GetIs n l p size big x e) (hp : PutList n l p size big v L) :
    Calls Try.prog 3 #[.agg #[.slice a0 n c, .int .i64 p, .int .i64 size, .bool big, .int .u64 v]] w fun e w' => e = .returned (.bool true) ∧ Below w.heap.size w w' := by
  have HB := Lib.hid hb
  have HG := Lib.hid hg
  have HP := Lib.hid hp
  have HLN := Lib.hid hb.1.1
  clear hb hg hp
  go_enter Try.func3, Try.ntmps3
  go_wp2_with fail
  go_quiet (fail)
  have hb1 : Below w.heap.size w ((w.alloc (.cells #[.slice a0 n c, .int .i64 p, .int .i64 size, .bool big, .int .u64 v] 25)).drewN nq) := below_drewN ((Below.refl _ _).alloc (Nat.le_refl _) _) nq
  generalize (w.alloc (.cells #[.slice a0 n c, .int .i64 p, .int .i64 size, .bool big, .int .u64 v] 25)).drewN nq = w1 at *
  have HB1 := Lib.hid (HB.out.below hb1)
  go_wp2_with fail
  refine (lent10 a0 n c l w1 HB1.out hn).mono ?_
  rintro en w2 ⟨g, cu, rfl, hlent, hb2⟩
  have HL2 := Lib.hid hlent
  have HU2 := Lib.hid (hlent.row HB1.out.1.2.2.1 (by omega) HLN.out)
  have HB2 := Lib.hid (HB1.out.below hb2)
  clear hlent
  go_wp2_with fail
  refine (HG.out w2 _ cu HU2.out).1.mono ?_
  rintro en w' ⟨rfl, rfl⟩
  go_wp2_with fail
  refine (HP.out w2 _ cu HU2.out).1.mono ?_
  rintro en w3 ⟨gy, cy, rfl, hown, hb3⟩
  have HO3 := Lib.hid hown
  have HB3 := Lib.hid (HB2.out.below hb3)
  clear hown
  go_wp2_with fail
  refine (HG.out w3 a0 c HB3.out).2.mono ?_
  rintro en w' ⟨rfl, rfl⟩
  go_wp2_with fail
  refine (HP.out w3 a0 c HB3.out).2.mono ?_
  rintro en w4 ⟨a4, c4, rfl, hin4, hb4⟩
  have HI4 := Lib.hid hin4
  have HO4 := Lib.hid (own_below HO3.out hb4)
  clear hin4
  have HY4 := Lib.hid (own_in HO4.out HI4.out.1.2.2.1 (by omega))
  go_wp2_with fail
  refine (same15 (some ⟨gy, 0, none⟩) a4 n cy c4 L w4 (by obtain ⟨a, c', hv, hin, _⟩ := HY4.out; injection hv with h1; subst h1; exact hin.1) HI4.out.1).mono ?_
  rintro en w5 ⟨rfl, hb5⟩
  have hb35 : Below w3.heap.size w3 w5 := hb4.trans (hb5.mono hb4.size)
  have HB5 := Lib.hid (HB3.out.below hb35)
  have HL5 := Lib.hid ((HL2.out.below hb3).below hb35)
  go_wp2_with fail
  refine (kept16 _ g n cu a0 c l w5 HL5.out HB5.out hn).mono ?_
  rintro en w6 ⟨rfl, hb6⟩
  have s2 := hb2.size
  have s3 := hb3.size
  have s5 := hb35.size
  have s6 := hb6.size
  have hb26 : Below w2.heap.size w2 w6 := (hb3.trans (hb35.mono (by omega))).trans (hb6.mono (by omega))
  have HO6 := Lib.hid (own_below (own_below HO4.out hb5) hb6)
  go_wp2_with fail
  go_loopw [19] (fun i wr => ∃ (k : Nat) (M : List Nat), k ≤ n ∧ i = .int .i64 k ∧ wr.ownsRow w2.heap.size 5 1 (.slice (some ⟨gy, 0, none⟩) n cy) n (bytesV M) ∧ Below w2.heap.size w2 wr) (fun i _ => n - (intOf i).toNat)
  case atStart => exact ⟨0, L, Nat.zero_le _, rfl, HO6.out, hb26⟩
  case round =>
    obtain ⟨k, M, hk, rfl, hown, hbel⟩ := hrel
    have HO := Lib.hid hown
    clear hown
    by_cases hlt : k < n
    · have hcell := (own_cells HO.out).2 k hlt
      rw [Nat.zero_add] at hcell
      have hfr := HO.out.frozenAt k
      have hst := (HO.out.stored k (.int .u8 ((99 : Nat) : Int))).1
      rw [bytesV_set] at hst
      have HT := Lib.hid hst
      have HBL := Lib.hid (hbel.setCell (p := ⟨gy, k, none⟩) (HO.out.lt gy rfl).1 (.int .u8 ((99 : Nat) : Int)))
      clear hst
      go_wp2_with fail
      go_roundw
      case rel => exact ⟨k + 1, _, by omega, by go_num, HT.out, HBL.out⟩
      case measure => simp [intOf]; omega
    · have HB7 := Lib.hid (HB2.out.below hbel)
      have HL7 := Lib.hid (HL2.out.below hbel)
      go_wp2_with fail
      refine (kept16 _ g n cu a0 c l wr HL7.out HB7.out hn).mono ?_
      rintro en w7 ⟨rfl, hb7⟩
      go_wp2_with fail
      refine (alive17 w7).mono ?_
      rintro en w8 ⟨rfl, hb8⟩
      go_wp2_with fail
      go_ret
      have s1 := hb1.size
      have sr := hbel.size
      have s7 := hb7.size
      exact ⟨rfl, (((hb1.trans (hb2.mono (by omega))).trans (hbel.mono (by omega))).trans (hb7.mono (by omega))).trans (hb8.mono (by omega))⟩

theorem walk3 (a0 : Option Addr) (n c : Nat) (l : List Nat) (p size : Int) (big : Bool) (v : Nat) (w : World) (hb : BIn w a0 n c l) (hn : n ≤ 140737488351232) (hv : v ≤ 18446744073709551615) :
    Calls Try.prog 3 #[.agg #[.slice a0 n c, .int .i64 p, .int .i64 size, .bool big, .int .u64 (v : Nat)]] w fun e w' => e = .returned (.bool true) ∧ Below w.heap.size w w' := by
  rcases size_cases size with h | ⟨s, rfl, hs⟩
  · obtain ⟨h1, h2⟩ := place_arg n l p size big v h
    exact walk3_nil a0 n c l p size big v 0 1 1 w hb (by omega) h1 h2
  · by_cases hp : p < 0 ∨ (n : Int) < p + s
    · obtain ⟨h1, h2⟩ := place_end n l p s big v (by omega) hs hp
      exact walk3_nil a0 n c l p s big v 0 11 11 w hb (by omega) h1 h2
    · obtain ⟨q, rfl⟩ := Int.eq_ofNat_of_zero_le (a := p) (by omega)
      have hq : q + s ≤ n := by omega
      by_cases hr : v < 256 ^ s
      · exact walk3_list a0 n c l q s big v _ 0 _ w hb (by omega) (place_get n l q s big (by omega) hs hq) (place_put n l q s big v hs hq hv hr)
      · exact walk3_nil a0 n c l q s big v _ 0 12 w hb (by omega) (place_get n l q s big (by omega) hs hq) (place_range n l q s big v (by omega) hs hq hv (by omega))

/-! ### The row's step -/
set_option maxRecDepth 100000 in
theorem lifted (os : Os) (started : os.Started) (H : Type) (enc : TypeId × Value → H) :
    ReturnsInHanded {} Try.checked os 3 .any (Rows.octetsNumbersSpec.pre6 enc Try.prog Try.f3 Rows.octetsNumbersRow.domain false) (Rows.octetsNumbersSpec.post enc Try.prog Try.f3 false true false false) := by
  refine returnsInHanded_of_change_sized (C := Try.checked) own started (by kernel_rfl) Try.func3
    (ChangeSpec.witness6 (enc := enc) (C := Try.checked) false ⟨#[], #[.agg #[.slice none 0 0, .int .i64 0, .int .i64 0, .bool false, .int .u64 0]], []⟩ 8 (by kernel_rfl) (by kernel_rfl) (by kernel_rfl) (by kernel_rfl)) ?_
  intro W base args ds gs before hval0 hW hcnd hsz0 _
  have hsz : (DataW.weightsEach Try.prog (Try.f3.params.toList ++ Rows.octetsNumbersSpec.plain.varTypes Try.prog) (ds ++ gs)).all (· ≤ reachBytes) = true := hsz0
  have hval : ∀ (j : Nat) t v, Try.f3.params[j]? = some t → args[j]? = some v → Value.okWide Try.prog W .any base t v := hval0
  have hW' := hW
  obtain ⟨p, q, hA0, hV, rfl, hfz, hnd⟩ := hW
  have hA : DataW.TrodAll enc Try.prog W 0 (fun _ => true) true Try.f3.params.toList args.toList ds p := hA0
  rw [Try.params3] at hA hval hsz
  obtain ⟨v0, vs0, d0, ds0, p0, q0, hargs, rfl, rfl, h0, r0⟩ := trodAll_cons hA
  obtain ⟨rfl, rfl, rfl⟩ := trodAll_nil r0
  obtain rfl : args = #[v0] := by cases args; simp_all
  obtain ⟨rfl, rfl⟩ := trodVars_none hV
  have k0 := h0
  have lt0 : ∀ x ∈ p0, x.block < W.heap.size := by obtain ⟨m, hm⟩ := k0; exact DataW.trod_lt m _ _ _ hm
  obtain ⟨c0, c1, c2, c3, c4, y0, y1, y2, y3, y4, m, rfl, rfl, hy0, hy1, hy2, hy3, hy4⟩ := open_place (hval 0 25 v0 rfl rfl) h0
  have hw : ∀ k ∈ DataW.weights Try.prog 22 y0.1, k ≤ reachBytes := by
    intro k hk
    have := List.all_eq_true.1 hsz k (DataW.weights_mem_each (j := 0) rfl rfl k (by
      simp only [DataW.weights, Try.underlying25]
      exact DataW.weights_mem_each (j := 0) rfl rfl k hk))
    simpa using this
  obtain ⟨a0, n, c, l, rfl, hin, hreach⟩ := bin_in hy0 hw
  obtain ⟨at_, e1, rfl, _⟩ := DataW.trod_int Try.underlying3 hy1
  obtain ⟨size, e2, rfl, _⟩ := DataW.trod_int Try.underlying3 hy2
  obtain ⟨big, e3, rfl⟩ := DataW.trod_bool Try.underlying4 hy3
  obtain ⟨v, e4, rfl, wv⟩ := DataW.trod_int Try.underlying23 hy4
  simp at e1 e2 e3 e4
  subst e1 e2 e3 e4
  have bv := bounds_u64 wv
  obtain ⟨v, rfl⟩ := Int.eq_ofNat_of_zero_le bv.1
  clear hA0 hval0
  refine (walk3 a0 n c l at_ size big v W hin hreach (by omega)).mono fun e W' ⟨he, bel⟩ => ?_
  subst he
  exact ⟨_, rfl, _, _, _, [], _, [], hW', trodAll_mk1 (shut_bool Try.underlying4 _), (trodAll_cons_mk (Below.trod laidOut (by kernel_rfl) (of_decide_eq_true (by kernel_rfl)) k0 bel lt0) trodAll_mk0), rfl, bel.frame _, fun h => by cases h⟩

theorem over : Rows.octetsNumbersRow.holds Try.pinned (OpenSpec.ofChange Rows.octetsNumbersSpec) :=
  OpenClaim.holds_of_wide 3 Try.f3 rfl rfl rfl rfl rfl rfl rfl ⟨rfl, rfl, rfl, rfl, rfl⟩ rfl rfl rfl rfl rfl (by kernel_rfl) Try.func3 (by kernel_rfl)
    (of_decide_eq_true (by kernel_rfl)) (by unfold Func.isWrapper; first | (rw [if_pos (by decide +kernel)]; kernel_rfl) | (rw [if_neg (by decide +kernel)]; exact ⟨rfl, rfl⟩))
    (fun os started H enc _ => lifted os started H enc)

/-- The statement. -/
theorem proved : Rows.OctetsNumbersSaid := over
#print axioms proved
end Go.Proofs.Ytgoackkmjfgneaa.octetsNumbers
