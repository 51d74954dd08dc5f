/- OctetsBack answers true for every list, place, size, order and number: what was laid down is read again, no other byte is touched, and what was read is laid back; nothing that was in memory is changed. No condition. -/
import Derived.Test.YtgoackkmjfgneaaFramePl
import Derived.Test.YtgoackkmjfgneaaPlace
import Derived.Test.YtgoackkmjfgneaaAlive
namespace Go.Proofs.Ytgoackkmjfgneaa.octetsBack
open Go.ChangeShapes Go.WideShapes Go.ChangeAt Go.RowKit Go.Joins
set_option linter.unusedVariables false

theorem below_drewN {B : Nat} {a w : World} (h : Below B a w) (n : Nat) : Below B a (w.drewN n) := ⟨h.os, h.tape, h.output, h.size, h.block⟩

set_option maxHeartbeats 1000000 in
theorem walk4_nil (a0 : Option Addr) (n c : Nat) (l : List Nat) (p size : Int) (big : Bool) (v f : Int) (w : World) (hb : BIn w a0 n c l)
    (hp : PutNil n l p size big v f) (hf : f ≠ 0) :
    Calls Try.prog 4 #[.agg #[.slice a0 n c, .int .i64 p, .int .i64 size, .bool big, .int .u64 v]] w fun e w' => e = .returned (.bool true) ∧ Below w.heap.size w w' := by
  have HB := Lib.hid hb
  have HP := Lib.hid hp
  have hf1 : (f != 0) = true := by rw [bne_iff_ne]; exact hf
  clear hb hp hf
  go_enter Try.func4, Try.ntmps4
  go_wp2_with fail
  go_quiet (fail)
  have hb1 : Below w.heap.size w ((w.alloc (.cells #[.slice a0 n c, .int .i64 p, .int .i64 size, .bool big, .int .u64 v] 25)).drewN nq) := below_drewN ((Below.refl _ _).alloc (Nat.le_refl _) _) nq
  generalize (w.alloc (.cells #[.slice a0 n c, .int .i64 p, .int .i64 size, .bool big, .int .u64 v] 25)).drewN nq = w1 at *
  have HB1 := Lib.hid (HB.out.below hb1)
  go_wp2_with fail
  refine (HP.out w1 a0 c HB1.out).1.mono ?_
  rintro en w2 ⟨rfl, hb2⟩
  go_wp2_with fail
  refine (alive17 w2).mono ?_
  rintro en w3 ⟨rfl, hb3⟩
  go_wp2_with fail
  go_ret
  have s1 := hb1.size
  have s2 := hb2.size
  exact ⟨rfl, (hb1.trans (hb2.mono (by omega))).trans (hb3.mono (by omega))⟩

set_option maxRecDepth 100000 in
set_option maxHeartbeats 1000000 in
theorem walk4_list (a0 : Option Addr) (n c : Nat) (l : List Nat) (p size : Nat) (big : Bool) (v : Nat) (L : List Nat) (x : Nat) (w : World) (hb : BIn w a0 n c l) (hps : p + size ≤ n)
    (hp : PutList n l p size big v L) (hp2 : PutList n L p size big x l) (hg : GetIs n l p size big x 0) (hg2 : GetIs n L p size big v 0)
    (hLT : ∀ y ∈ L, y < 256) (hout : ∀ i, i < p ∨ p + size ≤ i → L.getD i 0 = l.getD i 0) :
    Calls Try.prog 4 #[.agg #[.slice a0 n c, .int .i64 (p : Nat), .int .i64 (size : Nat), .bool big, .int .u64 (v : Nat)]] w fun e w' => e = .returned (.bool true) ∧ Below w.heap.size w w' := by
  have HB := Lib.hid hb
  have HP := Lib.hid hp
  have HP2 := Lib.hid hp2
  have HG := Lib.hid hg
  have HG2 := Lib.hid hg2
  have HOUT := Lib.hid hout
  have HLT2 := Lib.hid hLT
  have hn := hb.2.2.2.1
  have HLN := Lib.hid hb.1.1
  have HLT := Lib.hid hb.1.2.2.1
  clear hb hp hp2 hg hg2 hout hLT
  go_enter Try.func4, Try.ntmps4
  go_wp2_with fail
  go_quiet (fail)
  have hb1 : Below w.heap.size w ((w.alloc (.cells #[.slice a0 n c, .int .i64 (p : Nat), .int .i64 (size : Nat), .bool big, .int .u64 (v : Nat)] 25)).drewN nq) := below_drewN ((Below.refl _ _).alloc (Nat.le_refl _) _) nq
  generalize (w.alloc (.cells #[.slice a0 n c, .int .i64 (p : Nat), .int .i64 (size : Nat), .bool big, .int .u64 (v : Nat)] 25)).drewN nq = w1 at *
  have HB1 := Lib.hid (HB.out.below hb1)
  go_wp2_with fail
  refine (HP.out w1 a0 c HB1.out).1.mono ?_
  rintro en w2 ⟨g2, c2, rfl, hown, hb2⟩
  have HO2 := Lib.hid hown
  have HB2 := Lib.hid (HB1.out.below hb2)
  clear hown
  have HI2 := Lib.hid (show BIn w2 (some ⟨g2, 0, none⟩) n c2 L by obtain ⟨a, c', hv, hin, _⟩ := own_in HO2.out HLT2.out hn; injection hv with h1 _ h3; subst h1 h3; exact hin)
  go_wp2_with fail
  refine (HG2.out w2 _ c2 HI2.out).1.mono ?_
  rintro en w' ⟨rfl, rfl⟩
  go_wp2_with fail
  go_loopw [12] (fun i wr => ∃ k : Nat, k ≤ n ∧ i = .int .i64 k ∧ Below w2.heap.size w2 wr) (fun i _ => n - (intOf i).toNat)
  case atStart => exact ⟨0, Nat.zero_le _, rfl, Below.refl _ _⟩
  case round =>
    obtain ⟨k, hk, rfl, hbel⟩ := hrel
    have HBr := Lib.hid (HB2.out.below hbel)
    have HIr := Lib.hid (HI2.out.below hbel)
    by_cases hlt : k < n
    · obtain ⟨b1, o1, rfl, hc1⟩ := HBr.out.1.2.2.2.resolve_left (by omega)
      have e1 := hc1 k hlt
      obtain ⟨b2, o2, he, hc2⟩ := HIr.out.1.2.2.2.resolve_left (by omega)
      injection he with he
      injection he with he1 he2
      subst he1 he2
      have e2 := hc2 k hlt
      rw [Nat.zero_add] at e2
      have hkI : (k : Int) < (n : Int) := by omega
      obtain ⟨r, hr, hr2⟩ : ∃ r : Nat, p + size ≤ r ∧ r ≤ p + size := ⟨p + size, Nat.le_refl _, Nat.le_refl _⟩
      have ewr : IntKind.i64.wrap ((p : Int) + (size : Int)) = (r : Int) := by rw [IntWalk.i64_in _ (by omega)]; omega
      have HOK := Lib.hid (HOUT.out k)
      clear hc1 hc2
      generalize L.getD k 0 = y at *
      generalize l.getD k 0 = z at *
      by_cases hkp : k < p
      · obtain rfl : y = z := HOK.out (.inl hkp)
        have d1 : ((k : Int) < (p : Int)) := by omega
        go_wp2_with fail
        go_quiet (fail)
        have hbel2 : Below w2.heap.size w2 (wr.drewN nq) := below_drewN hbel _
        go_wp2_with fail
        go_roundw
        case rel => exact ⟨k + 1, by omega, by go_num, hbel2⟩
        case measure => simp [intOf]; omega
      · have d1 : decide (k < p) = false := by simpa using hkp
        have d2 : decide ((k : Int) < (p : Int)) = false := by simp; omega
        by_cases hks : p + size ≤ k
        · obtain rfl : y = z := HOK.out (.inr hks)
          have d3 : decide (r ≤ k) = true := by simp; omega
          have d4 : ((r : Int) ≤ (k : Int)) := by omega
          go_wp2_with fail
          go_quiet (fail)
          have hbel2 : Below w2.heap.size w2 (wr.drewN nq) := below_drewN hbel _
          go_wp2_with fail
          go_roundw
          case rel => exact ⟨k + 1, by omega, by go_num, hbel2⟩
          case measure => simp [intOf]; omega
        · have d3 : decide (r ≤ k) = false := by simp; omega
          have d4 : decide ((r : Int) ≤ (k : Int)) = false := by simp; omega
          go_wp2_with fail
          go_quiet (fail)
          have hbel2 : Below w2.heap.size w2 (wr.drewN nq) := below_drewN hbel _
          go_wp2_with fail
          go_roundw
          case rel => exact ⟨k + 1, by omega, by go_num, hbel2⟩
          case measure => simp [intOf]; omega
    · go_wp2_with fail
      refine (HG.out wr a0 c HBr.out).1.mono ?_
      rintro en w' ⟨rfl, rfl⟩
      go_wp2_with fail
      refine (HP2.out wr _ c2 HIr.out).1.mono ?_
      rintro en w3 ⟨g3, c3, rfl, hown3, hb3⟩
      have HI3 := Lib.hid (show BIn w3 (some ⟨g3, 0, none⟩) n c3 l by obtain ⟨a, c', hv, hin, _⟩ := own_in hown3 HLT.out hn; injection hv with h1 _ h3; subst h1 h3; exact hin)
      have HB3 := Lib.hid (HBr.out.below hb3)
      clear hown3
      go_wp2_with fail
      refine (same15 _ a0 n c3 c l w3 HI3.out.1 HB3.out.1).mono ?_
      rintro en w4 ⟨rfl, hb4⟩
      go_wp2_with fail
      refine (alive17 w4).mono ?_
      rintro en w5 ⟨rfl, hb5⟩
      go_wp2_with fail
      go_ret
      have s1 := hb1.size
      have s2 := hb2.size
      have sr := hbel.size
      have s3 := hb3.size
      have s4 := hb4.size
      exact ⟨rfl, ((((hb1.trans (hb2.mono (by omega))).trans (hbel.mono (by omega))).trans (hb3.mono (by omega))).trans (hb4.mono (by omega))).trans (hb5.mono (by omega))⟩

theorem walk4 (a0 : Option Addr) (n c : Nat) (l : List Nat) (p size : Int) (big : Bool) (v : Nat) (w : World) (hb : BIn w a0 n c l) (hn : n ≤ 140737488351232) (hv : v ≤ 18446744073709551615) :
    Calls Try.prog 4 #[.agg #[.slice a0 n c, .int .i64 p, .int .i64 size, .bool big, .int .u64 (v : Nat)]] w fun e w' => e = .returned (.bool true) ∧ Below w.heap.size w w' := by
  have hl := hb.1.1
  have hlt := hb.1.2.2.1
  rcases size_cases size with h | ⟨s, rfl, hs⟩
  · exact walk4_nil a0 n c l p size big v 1 w hb (place_arg n l p size big v h).2 (by decide)
  · by_cases hp : p < 0 ∨ (n : Int) < p + s
    · exact walk4_nil a0 n c l p s big v 11 w hb (place_end n l p s big v (by omega) hs hp).2 (by decide)
    · obtain ⟨q, rfl⟩ := Int.eq_ofNat_of_zero_le (a := p) (by omega)
      have hq : q + s ≤ n := by omega
      by_cases hr : v < 256 ^ s
      · have hsz := hs.le
        have hL : (putN l q s big v).length = l.length := putTo_length _ _ _ _ _ _
        have hLlt := putTo_lt hlt q s big v s
        have hg2 := place_get n (putN l q s big v) q s big (by omega) hs hq
        rw [getN_putN big (by omega) hr] at hg2
        have hx := getTo_lt hlt q s big s
        have hx2 := getN_lt hlt q s big hsz.2
        have hp2 := place_put n (putN l q s big v) q s big (getN l q s big) hs hq (by omega) hx
        rw [putN_back hlt big (by omega)] at hp2
        refine walk4_list a0 n c l q s big v (putN l q s big v) (getN l q s big) w hb hq (place_put n l q s big v hs hq hv hr) hp2 (place_get n l q s big (by omega) hs hq) hg2 hLlt (fun i hi => ?_)
        rw [putN_at big v (by omega), if_neg (by omega)]
      · exact walk4_nil a0 n c l q s big v 12 w hb (place_range n l q s big v (by omega) hs hq hv (by omega)) (by decide)

/-! ### The row's step -/
set_option maxRecDepth 100000 in
theorem lifted (os : Os) (started : os.Started) (H : Type) (enc : TypeId × Value → H) :
    ReturnsInHanded {} Try.checked os 4 .any (Rows.octetsBackSpec.pre6 enc Try.prog Try.f4 Rows.octetsBackRow.domain false) (Rows.octetsBackSpec.post enc Try.prog Try.f4 false true false false) := by
  refine returnsInHanded_of_change_sized (C := Try.checked) own started (by kernel_rfl) Try.func4
    (ChangeSpec.witness6 (enc := enc) (C := Try.checked) false ⟨#[], #[.agg #[.slice none 0 0, .int .i64 0, .int .i64 0, .bool false, .int .u64 0]], []⟩ 8 (by kernel_rfl) (by kernel_rfl) (by kernel_rfl) (by kernel_rfl)) ?_
  intro W base args ds gs before hval0 hW hcnd hsz0 _
  have hsz : (DataW.weightsEach Try.prog (Try.f4.params.toList ++ Rows.octetsBackSpec.plain.varTypes Try.prog) (ds ++ gs)).all (· ≤ reachBytes) = true := hsz0
  have hval : ∀ (j : Nat) t v, Try.f4.params[j]? = some t → args[j]? = some v → Value.okWide Try.prog W .any base t v := hval0
  have hW' := hW
  obtain ⟨p, q, hA0, hV, rfl, hfz, hnd⟩ := hW
  have hA : DataW.TrodAll enc Try.prog W 0 (fun _ => true) true Try.f4.params.toList args.toList ds p := hA0
  rw [Try.params4] at hA hval hsz
  obtain ⟨v0, vs0, d0, ds0, p0, q0, hargs, rfl, rfl, h0, r0⟩ := trodAll_cons hA
  obtain ⟨rfl, rfl, rfl⟩ := trodAll_nil r0
  obtain rfl : args = #[v0] := by cases args; simp_all
  obtain ⟨rfl, rfl⟩ := trodVars_none hV
  have k0 := h0
  have lt0 : ∀ x ∈ p0, x.block < W.heap.size := by obtain ⟨m, hm⟩ := k0; exact DataW.trod_lt m _ _ _ hm
  obtain ⟨c0, c1, c2, c3, c4, y0, y1, y2, y3, y4, m, rfl, rfl, hy0, hy1, hy2, hy3, hy4⟩ := open_place (hval 0 25 v0 rfl rfl) h0
  have hw : ∀ k ∈ DataW.weights Try.prog 22 y0.1, k ≤ reachBytes := by
    intro k hk
    have := List.all_eq_true.1 hsz k (DataW.weights_mem_each (j := 0) rfl rfl k (by
      simp only [DataW.weights, Try.underlying25]
      exact DataW.weights_mem_each (j := 0) rfl rfl k hk))
    simpa using this
  obtain ⟨a0, n, c, l, rfl, hin, hreach⟩ := bin_in hy0 hw
  obtain ⟨at_, e1, rfl, _⟩ := DataW.trod_int Try.underlying3 hy1
  obtain ⟨size, e2, rfl, _⟩ := DataW.trod_int Try.underlying3 hy2
  obtain ⟨big, e3, rfl⟩ := DataW.trod_bool Try.underlying4 hy3
  obtain ⟨v, e4, rfl, wv⟩ := DataW.trod_int Try.underlying23 hy4
  simp at e1 e2 e3 e4
  subst e1 e2 e3 e4
  have bv := bounds_u64 wv
  obtain ⟨v, rfl⟩ := Int.eq_ofNat_of_zero_le bv.1
  clear hA0 hval0
  refine (walk4 a0 n c l at_ size big v W hin hreach (by omega)).mono fun e W' ⟨he, bel⟩ => ?_
  subst he
  exact ⟨_, rfl, _, _, _, [], _, [], hW', trodAll_mk1 (shut_bool Try.underlying4 _), (trodAll_cons_mk (Below.trod laidOut (by kernel_rfl) (of_decide_eq_true (by kernel_rfl)) k0 bel lt0) trodAll_mk0), rfl, bel.frame _, fun h => by cases h⟩

theorem over : Rows.octetsBackRow.holds Try.pinned (OpenSpec.ofChange Rows.octetsBackSpec) :=
  OpenClaim.holds_of_wide 4 Try.f4 rfl rfl rfl rfl rfl rfl rfl ⟨rfl, rfl, rfl, rfl, rfl⟩ rfl rfl rfl rfl rfl (by kernel_rfl) Try.func4 (by kernel_rfl)
    (of_decide_eq_true (by kernel_rfl)) (by unfold Func.isWrapper; first | (rw [if_pos (by decide +kernel)]; kernel_rfl) | (rw [if_neg (by decide +kernel)]; exact ⟨rfl, rfl⟩))
    (fun os started H enc _ => lifted os started H enc)

/-- The statement. -/
theorem proved : Rows.OctetsBackSaid := over
#print axioms proved
end Go.Proofs.Ytgoackkmjfgneaa.octetsBack
