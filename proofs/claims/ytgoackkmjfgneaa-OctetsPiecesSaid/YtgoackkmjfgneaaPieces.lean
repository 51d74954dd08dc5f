/- OctetsPieces answers true for every list, place, size and multiple: Fits, Up and Cut give the document's answers, and nothing wraps around; nothing that was in memory is changed. No condition. -/
import Derived.Test.YtgoackkmjfgneaaFrameB
import Derived.Test.YtgoackkmjfgneaaCut
import Derived.Test.YtgoackkmjfgneaaAlive
import Derived.Lib.SmallJoins
namespace Go.Proofs.Ytgoackkmjfgneaa.octetsPieces
open Go.ChangeShapes Go.WideShapes Go.ChangeAt Go.RowKit Go.Joins
open Go.ChangeMaps (open_string shut_string)
set_option linter.unusedVariables false

theorem fits_both (f s l : Nat) (hl : l ≤ 18446744073709551615) : ∃ t : Bool, ∀ w,
    Calls Try.prog 18 #[.int .u64 (f : Nat), .int .u64 (s : Nat), .int .u64 (l : Nat)] w (fun e w' => e = .returned (.bool t) ∧ w = w') ∧
    Calls Try.prog 23 #[.int .u64 (f : Nat), .int .u64 (s : Nat), .int .u64 (l : Nat)] w (fun e w' => e = .returned (.bool t) ∧ w = w') := by
  by_cases h : f + s ≤ l
  · exact ⟨true, fun w => fits_yes f s l w hl h⟩
  · exact ⟨false, fun w => fits_no f s l w hl (by omega)⟩

theorem below_drewN {B : Nat} {a w : World} (h : Below B a w) (n : Nat) : Below B a (w.drewN n) := ⟨h.os, h.tape, h.output, h.size, h.block⟩

/-- what a Cut answers: so many bytes in new memory, with OK -/
def CutIs (n : Nat) (l : List Nat) (w : World) (e : Ending) (w' : World) : Prop := ∃ a c, e = .returned (.tuple #[.slice a n c, .int .i64 0]) ∧ BIn w' a n c l ∧ Below w.heap.size w w'
theorem cut_is {a0 : Option Addr} {n c f s : Nat} {l : List Nat} {w0 : World} (hb : BIn w0 a0 n c l) (h : f + s ≤ n) : ∃ L, ∀ w, BIn w a0 n c l →
    Calls Try.prog 20 #[.slice a0 n c, .int .u64 (f : Nat), .int .u64 (s : Nat)] w (CutIs s L w) ∧ Calls Try.prog 22 #[.slice a0 n c, .int .u64 (f : Nat), .int .u64 (s : Nat)] w (CutIs s L w) := by
  have hl : l.length = n := hb.1.1
  have hlen : ((l.drop f).take s).length = s := by simp; omega
  have hlt : ∀ y ∈ (l.drop f).take s, y < 256 := fun y hy => hb.1.2.2.1 y (List.mem_of_mem_drop (List.mem_of_mem_take hy))
  have hn := hb.2.2.2.1
  have all : ∀ w e w', MadeOk ((l.drop f).take s) w e w' → CutIs s ((l.drop f).take s) w e w' := by
    rintro w e w' ⟨v, rfl, hown, hbel⟩
    rw [hlen] at hown
    obtain ⟨a, c, rfl, hin, _⟩ := own_in hown hlt (by omega)
    exact ⟨a, c, rfl, hin, hbel⟩
  exact ⟨(l.drop f).take s, fun w hw => ⟨(cut20_yes a0 n c f s l w hw h).mono (all w), (cut22_yes a0 n c f s l w hw h).mono (all w)⟩⟩

set_option maxHeartbeats 1000000 in
theorem walk5_yes (a0 : Option Addr) (n c : Nat) (l : List Nat) (f s a : Nat) (w : World) (hb : BIn w a0 n c l) (hf : f ≤ 18446744073709551615) (hs : s ≤ 18446744073709551615) (ha : a ≤ 18446744073709551615) (hfs : f + s ≤ n) :
    Calls Try.prog 5 #[.agg #[.slice a0 n c, .int .u64 (f : Nat), .int .u64 (s : Nat), .int .u64 (a : Nat)]] w fun e w' => e = .returned (.bool true) ∧ Below w.heap.size w w' := by
  have HB := Lib.hid hb
  obtain ⟨t, hfit⟩ := fits_both f s a ha
  obtain ⟨x, ux, hup⟩ := up_both f a hf ha
  obtain ⟨L, hcut⟩ := cut_is hb hfs
  have HF := Lib.hid hfit
  have HU := Lib.hid hup
  have HC := Lib.hid hcut
  clear hfit hup hcut hb
  go_enter Try.func5, Try.ntmps5
  go_wp2_with fail
  go_quiet (fail)
  go_wp2_with fail
  have hb1 : Below w.heap.size w ((w.alloc (.cells #[.slice a0 n c, .int .u64 (f : Nat), .int .u64 (s : Nat), .int .u64 (a : Nat)] 36)).drewN nq) := below_drewN ((Below.refl _ _).alloc (Nat.le_refl _) _) nq
  generalize (w.alloc (.cells #[.slice a0 n c, .int .u64 (f : Nat), .int .u64 (s : Nat), .int .u64 (a : Nat)] 36)).drewN nq = w1 at *
  refine (HF.out w1).1.mono ?_
  rintro e w' ⟨rfl, rfl⟩
  go_wp2_with fail
  refine (HU.out w1).1.mono ?_
  rintro e w' ⟨rfl, rfl⟩
  go_wp2_with fail
  have HB1 := Lib.hid (HB.out.below hb1)
  refine (HC.out w1 HB1.out).1.mono ?_
  rintro e w2 ⟨a1, c1, rfl, hin1, hb2⟩
  have HI1 := Lib.hid hin1
  have HB2 := Lib.hid (HB1.out.below hb2)
  clear hin1
  go_wp2_with fail
  refine (HU.out w2).2.mono ?_
  rintro e w' ⟨rfl, rfl⟩
  go_wp2_with fail
  refine (HC.out w2 HB2.out).2.mono ?_
  rintro e w3 ⟨a2, c2, rfl, hin2, hb3⟩
  have HI2 := Lib.hid hin2
  have HI3 := Lib.hid (HI1.out.below hb3)
  clear hin2
  go_wp2_with fail
  refine (same15 a1 a2 s c1 c2 L w3 HI3.out.1 HI2.out.1).mono ?_
  rintro e w4 ⟨rfl, hb4⟩
  go_wp2_with fail
  refine (alive17 w4).mono ?_
  rintro e w5 ⟨rfl, hb5⟩
  go_wp2_with fail
  refine (HF.out w5).2.mono ?_
  rintro e w' ⟨rfl, rfl⟩
  go_wp2_with fail
  go_ret
  have h2 := hb1.size
  have h3 := hb2.size
  have h4 := hb3.size
  have h5 := hb4.size
  exact ⟨rfl, (((hb1.trans (hb2.mono h2)).trans (hb3.mono (by omega))).trans (hb4.mono (by omega))).trans (hb5.mono (by omega))⟩

set_option maxHeartbeats 1000000 in
theorem walk5_no (a0 : Option Addr) (n c : Nat) (l : List Nat) (f s a : Nat) (w : World) (hb : BIn w a0 n c l) (hf : f ≤ 18446744073709551615) (hs : s ≤ 18446744073709551615) (ha : a ≤ 18446744073709551615) (hfs : n < f + s) :
    Calls Try.prog 5 #[.agg #[.slice a0 n c, .int .u64 (f : Nat), .int .u64 (s : Nat), .int .u64 (a : Nat)]] w fun e w' => e = .returned (.bool true) ∧ Below w.heap.size w w' := by
  have hn := hb.2.2.2.1
  obtain ⟨t, hfit⟩ := fits_both f s a ha
  obtain ⟨x, ux, hup⟩ := up_both f a hf ha
  have HF := Lib.hid hfit
  have HU := Lib.hid hup
  have HFS := Lib.hid hfs
  clear hfit hup hb hfs
  go_enter Try.func5, Try.ntmps5
  go_wp2_with fail
  go_quiet (fail)
  go_wp2_with fail
  have hb1 : Below w.heap.size w ((w.alloc (.cells #[.slice a0 n c, .int .u64 (f : Nat), .int .u64 (s : Nat), .int .u64 (a : Nat)] 36)).drewN nq) := below_drewN ((Below.refl _ _).alloc (Nat.le_refl _) _) nq
  generalize (w.alloc (.cells #[.slice a0 n c, .int .u64 (f : Nat), .int .u64 (s : Nat), .int .u64 (a : Nat)] 36)).drewN nq = w1 at *
  refine (HF.out w1).1.mono ?_
  rintro e w' ⟨rfl, rfl⟩
  go_wp2_with fail
  refine (HU.out w1).1.mono ?_
  rintro e w' ⟨rfl, rfl⟩
  go_wp2_with fail
  refine (cut20_no a0 n c f s w1 hn HFS.out).mono ?_
  rintro e w' ⟨rfl, rfl⟩
  go_wp2_with fail
  refine (HU.out w1).2.mono ?_
  rintro e w' ⟨rfl, rfl⟩
  go_wp2_with fail
  refine (cut22_no a0 n c f s w1 hn HFS.out).mono ?_
  rintro e w' ⟨rfl, rfl⟩
  go_wp2_with fail
  refine (same15 none none 0 0 0 [] w1 ⟨rfl, Nat.zero_le _, by simp, .inl rfl⟩ ⟨rfl, Nat.zero_le _, by simp, .inl rfl⟩).mono ?_
  rintro e w4 ⟨rfl, hb4⟩
  go_wp2_with fail
  refine (alive17 w4).mono ?_
  rintro e w5 ⟨rfl, hb5⟩
  go_wp2_with fail
  refine (HF.out w5).2.mono ?_
  rintro e w' ⟨rfl, rfl⟩
  go_wp2_with fail
  go_ret
  have h2 := hb1.size
  have h5 := hb4.size
  exact ⟨rfl, (hb1.trans (hb4.mono (by omega))).trans (hb5.mono (by omega))⟩

theorem walk5 (a0 : Option Addr) (n c : Nat) (l : List Nat) (f s a : Nat) (w : World) (hb : BIn w a0 n c l) (hf : f ≤ 18446744073709551615) (hs : s ≤ 18446744073709551615) (ha : a ≤ 18446744073709551615) :
    Calls Try.prog 5 #[.agg #[.slice a0 n c, .int .u64 (f : Nat), .int .u64 (s : Nat), .int .u64 (a : Nat)]] w fun e w' => e = .returned (.bool true) ∧ Below w.heap.size w w' := by
  by_cases h : f + s ≤ n
  · exact walk5_yes a0 n c l f s a w hb hf hs ha h
  · exact walk5_no a0 n c l f s a w hb hf hs ha (by omega)

theorem cells36 : Try.prog.cellsOf 36 = 4 := by kernel_rfl

/-! ### The row's step -/
set_option maxRecDepth 100000 in
theorem lifted (os : Os) (started : os.Started) (H : Type) (enc : TypeId × Value → H) :
    ReturnsInHanded {} Try.checked os 5 .any (Rows.octetsPiecesSpec.pre6 enc Try.prog Try.f5 Rows.octetsPiecesRow.domain false) (Rows.octetsPiecesSpec.post enc Try.prog Try.f5 false true false false) := by
  refine returnsInHanded_of_change_sized (C := Try.checked) own started (by kernel_rfl) Try.func5
    (ChangeSpec.witness6 (enc := enc) (C := Try.checked) false ⟨#[], #[.agg #[.slice none 0 0, .int .u64 0, .int .u64 0, .int .u64 0]], []⟩ 8 (by kernel_rfl) (by kernel_rfl) (by kernel_rfl) (by kernel_rfl)) ?_
  intro W base args ds gs before hval0 hW hcnd hsz0 _
  have hsz : (DataW.weightsEach Try.prog (Try.f5.params.toList ++ Rows.octetsPiecesSpec.plain.varTypes Try.prog) (ds ++ gs)).all (· ≤ reachBytes) = true := hsz0
  have hval : ∀ (j : Nat) t v, Try.f5.params[j]? = some t → args[j]? = some v → Value.okWide Try.prog W .any base t v := hval0
  have hW' := hW
  obtain ⟨p, q, hA0, hV, rfl, hfz, hnd⟩ := hW
  have hA : DataW.TrodAll enc Try.prog W 0 (fun _ => true) true Try.f5.params.toList args.toList ds p := hA0
  rw [Try.params5] at hA hval hsz
  obtain ⟨v0, vs0, d0, ds0, p0, q0, hargs, rfl, rfl, h0, r0⟩ := trodAll_cons hA
  obtain ⟨rfl, rfl, rfl⟩ := trodAll_nil r0
  obtain rfl : args = #[v0] := by cases args; simp_all
  obtain ⟨rfl, rfl⟩ := trodVars_none hV
  have k0 := h0
  have lt0 : ∀ x ∈ p0, x.block < W.heap.size := by obtain ⟨m, hm⟩ := k0; exact DataW.trod_lt m _ _ _ hm
  obtain ⟨c0, c1, c2, c3, y0, y1, y2, y3, m, rfl, rfl, rfl, hy0, hy1, hy2, hy3⟩ := open_agg4 Try.underlying36 (by kernel_rfl) cells36 (hval 0 36 v0 rfl rfl) h0
  have hw : ∀ k ∈ DataW.weights Try.prog 22 y0.1, k ≤ reachBytes := by
    intro k hk
    have := List.all_eq_true.1 hsz k (DataW.weights_mem_each (j := 0) rfl rfl k (by
      simp only [DataW.weights, Try.underlying36]
      exact DataW.weights_mem_each (j := 0) rfl rfl k hk))
    simpa using this
  obtain ⟨a0, n, c, l, rfl, hin, hreach⟩ := bin_in hy0 hw
  obtain ⟨f, e1, rfl, wf⟩ := DataW.trod_int Try.underlying23 hy1
  obtain ⟨s, e2, rfl, ws⟩ := DataW.trod_int Try.underlying23 hy2
  obtain ⟨u, e3, rfl, wu⟩ := DataW.trod_int Try.underlying23 hy3
  simp at e1 e2 e3
  subst e1 e2 e3
  have bf := bounds_u64 wf
  have bs := bounds_u64 ws
  have bu := bounds_u64 wu
  obtain ⟨f, rfl⟩ := Int.eq_ofNat_of_zero_le bf.1
  obtain ⟨s, rfl⟩ := Int.eq_ofNat_of_zero_le bs.1
  obtain ⟨u, rfl⟩ := Int.eq_ofNat_of_zero_le bu.1
  clear hA0 hval0
  refine (walk5 a0 n c l f s u W hin (by omega) (by omega) (by omega)).mono fun e W' ⟨he, bel⟩ => ?_
  subst he
  exact ⟨_, rfl, _, _, _, [], _, [], hW', trodAll_mk1 (shut_bool Try.underlying4 _), (trodAll_cons_mk (Below.trod laidOut (by kernel_rfl) (of_decide_eq_true (by kernel_rfl)) k0 bel lt0) trodAll_mk0), rfl, bel.frame _, fun h => by cases h⟩

theorem over : Rows.octetsPiecesRow.holds Try.pinned (OpenSpec.ofChange Rows.octetsPiecesSpec) :=
  OpenClaim.holds_of_wide 5 Try.f5 rfl rfl rfl rfl rfl rfl rfl ⟨rfl, rfl, rfl, rfl, rfl⟩ rfl rfl rfl rfl rfl (by kernel_rfl) Try.func5 (by kernel_rfl)
    (of_decide_eq_true (by kernel_rfl)) (by unfold Func.isWrapper; first | (rw [if_pos (by decide +kernel)]; kernel_rfl) | (rw [if_neg (by decide +kernel)]; exact ⟨rfl, rfl⟩))
    (fun os started H enc _ => lifted os started H enc)

/-- The statement. -/
theorem proved : Rows.OctetsPiecesSaid := over
#print axioms proved
end Go.Proofs.Ytgoackkmjfgneaa.octetsPieces
