/- The small functions: ranges, what a region says. No condition. -/
import Derived.Test.YtelfhpmbnficfaaRa
import Derived.Test.YtelfhpmbnficfaaG0
import Derived.Deep.Cut
import Derived.Deep.QuietTactic
import Derived.IntWalk
namespace Go.Proofs.Ytelfhpmbnficfaa
open Go.RowKit
set_option linter.unusedVariables false
set_option maxRecDepth 100000
set_option linter.unusedSimpArgs false
theorem u64w {x : Int} {d : Nat} (h : x = (d : Int)) (hd : d < 18446744073709551616) : IntKind.u64.wrap x = (d : Int) := by
  subst h
  exact IntWalk.u64_in _ (by omega)
set_option maxHeartbeats 800000 in
theorem fits_any (f s l : Nat) (w : World) (hf : U64 f) (hs : U64 s) (hl : U64 l) : Calls Try.prog 46 #[.int .u64 (f : Nat), .int .u64 (s : Nat), .int .u64 (l : Nat)] w fun e w' => e = .returned (.bool (decide (f ≤ l ∧ s ≤ l - f))) ∧ w = w' := by
  unfold U64 at *
  by_cases h1 : f ≤ l
  · obtain ⟨d, hd⟩ : ∃ d, l - f = d := ⟨_, rfl⟩
    have hw : IntKind.u64.wrap ((l : Int) - (f : Int)) = (d : Int) := u64w (by omega) (by omega)
    rw [hd]
    have e : decide (f ≤ l ∧ s ≤ d) = decide (s ≤ d) := by simp [h1]
    rw [e]
    have t1 : decide (f ≤ l) = true := by simpa using h1
    clear e hd h1
    go_enter Try.func46, Try.ntmps46
    go_wp2
    go_ret
    exact ⟨rfl, rfl⟩
  · have e : decide (f ≤ l ∧ s ≤ l - f) = false := by simp [h1]
    rw [e]
    have t1 : decide (f ≤ l) = false := by simpa using h1
    clear e h1
    go_enter Try.func46, Try.ntmps46
    go_wp2
    go_ret
    exact ⟨rfl, rfl⟩
set_option maxHeartbeats 800000 in
theorem within_any (a s : Nat) (w : World) (ha : U64 a) (hs : U64 s) : Calls Try.prog 36 #[.int .u64 (a : Nat), .int .u64 (s : Nat)] w fun e w' => e = .returned (.bool (wiB a s)) ∧ w = w' := by
  by_cases h1 : 1073741824 ≤ a
  · obtain ⟨d, hd⟩ : ∃ d, a - 1073741824 = d := ⟨_, rfl⟩
    have hw : IntKind.u64.wrap ((a : Int) - 1073741824) = (d : Int) := u64w (by omega) (by unfold U64 at ha; omega)
    have HF := Lib.hid (fits_any d s 65536 w (by unfold U64 at *; omega) hs (by unfold U64; omega))
    have e : wiB a s = decide (d ≤ 65536 ∧ s ≤ 65536 - d) := by unfold wiB; rw [decide_eq_decide]; omega
    rw [← e] at HF
    obtain ⟨r, hr⟩ : ∃ r, wiB a s = r := ⟨_, rfl⟩
    rw [hr] at HF ⊢
    clear hr
    have t1 : decide ((1073741824 : Int) ≤ (a : Int)) = true := by simp only [decide_eq_true_eq]; omega
    clear e hd h1
    go_enter Try.func36, Try.ntmps36
    go_wp2_with (go_at_call 46; (try rw [hw]); refine HF.out.mono ?_; rintro e w' ⟨rfl, rfl⟩)
    go_ret
    exact ⟨rfl, rfl⟩
  · have e : wiB a s = false := by unfold wiB; simp; omega
    rw [e]
    have t1 : decide ((1073741824 : Int) ≤ (a : Int)) = false := by simp only [decide_eq_false_iff_not]; omega
    clear e h1
    go_enter Try.func36, Try.ntmps36
    go_wp2
    go_ret
    exact ⟨rfl, rfl⟩
/-- why a range can't be reached -/
def clE (a s : Nat) : Int := if wiB a s = true then 0 else 161
theorem closed_any (p a s : Nat) (w : World) (ha : U64 a) (hs : U64 s) : Calls Try.prog 31 #[.pointer (some ⟨p, 0, none⟩), .int .u64 (a : Nat), .int .u64 (s : Nat)] w fun e w' => e = .returned (.int .i64 (clE a s)) ∧ w = w' := by
  have HC := within_any a s w ha hs
  unfold clE
  cases h : wiB a s <;> rw [h] at HC <;> replace HC := Lib.hid HC <;> clear h
  · go_enter Try.func31, Try.ntmps31
    go_wp2_with (go_at_call 36; refine HC.out.mono ?_; rintro e w' ⟨rfl, rfl⟩)
    go_ret
    exact ⟨rfl, rfl⟩
  · go_enter Try.func31, Try.ntmps31
    go_wp2_with (go_at_call 36; refine HC.out.mono ?_; rintro e w' ⟨rfl, rfl⟩)
    go_ret
    exact ⟨rfl, rfl⟩
theorem closed_nil (x y : Value) (w : World) : Calls Try.prog 31 #[.pointer none, x, y] w fun e w' => e = .returned (.int .i64 1) ∧ w = w' := by
  go_enter Try.func31, Try.ntmps31
  go_wp2
  go_ret
  exact ⟨rfl, rfl⟩
set_option maxHeartbeats 800000 in
theorem rwithin_any (a s : Nat) (w : World) (ha : U64 a) (hs : U64 s) : Calls Try.prog 41 #[.int .u64 (a : Nat), .int .u64 (s : Nat)] w fun e w' => e = .returned (.bool (wiB a s)) ∧ w = w' := by
  unfold U64 at *
  by_cases h1 : 1073741824 ≤ a
  · obtain ⟨d, hd⟩ : ∃ d, a - 1073741824 = d := ⟨_, rfl⟩
    have hw : IntKind.u64.wrap ((a : Int) - 1073741824) = (d : Int) := u64w (by omega) (by omega)
    have t1 : decide ((1073741824 : Int) ≤ (a : Int)) = true := by simp only [decide_eq_true_eq]; omega
    by_cases h2 : d ≤ 65536
    · obtain ⟨q, hq⟩ : ∃ q, 65536 - d = q := ⟨_, rfl⟩
      have hw2 : IntKind.u64.wrap (65536 - (d : Int)) = (q : Int) := u64w (by omega) (by omega)
      have t2 : decide ((d : Int) ≤ 65536) = true := by simp only [decide_eq_true_eq]; omega
      have e : wiB a s = decide (s ≤ q) := by unfold wiB; rw [decide_eq_decide]; omega
      rw [e]
      clear e hd hq h1 h2
      go_enter Try.func41, Try.ntmps41
      go_wp2
      go_ret
      exact ⟨rfl, rfl⟩
    · have t2 : decide ((d : Int) ≤ 65536) = false := by simp only [decide_eq_false_iff_not]; omega
      have e : wiB a s = false := by unfold wiB; simp only [decide_eq_false_iff_not]; omega
      rw [e]
      clear e hd h1 h2
      go_enter Try.func41, Try.ntmps41
      go_wp2
      go_ret
      exact ⟨rfl, rfl⟩
  · have e : wiB a s = false := by unfold wiB; simp; omega
    rw [e]
    have t1 : decide ((1073741824 : Int) ≤ (a : Int)) = false := by simp only [decide_eq_false_iff_not]; omega
    clear e h1
    go_enter Try.func41, Try.ntmps41
    go_wp2
    go_ret
    exact ⟨rfl, rfl⟩
theorem results_one {P : Program} {fn : Func} {p : Tmp} {ty : TypeId} (h : fn.results = #[.cell p ty]) (tmps : Array Value) (w : World) (g : Nat) (t : TypeId) (cs : Array Value) (fr : Nat × Nat) (d : TypeDesc)
    (hp : tmps.getD p undef = .pointer (some ⟨g, 0, none⟩)) (hg : w.heap[g]? = some (.cells cs t fr))
    (hu : P.underlying ty = some d) (hd : (match d with | .struct _ | .array _ _ => true | _ => false) = true) (hi : (P.info? ty).map (·.size) = some cs.size) :
    (results fn tmps).run P w = .ok (.agg cs) w := by
  have hp' : tmps[p]?.getD undef = .pointer (some ⟨g, 0, none⟩) := by simpa using hp
  simp [results, h, hp', asAddr, run_loadVar_row w g t ty cs fr d hg hu hd hi]
theorem info34 : (Try.prog.info? 34).map (·.size) = some 6 := by kernel_rfl
theorem info67 : (Try.prog.info? 67).map (·.size) = some 7 := by kernel_rfl
theorem decT {p : Prop} [Decidable p] (h : p) : decide p = true := decide_eq_true h
theorem decF {p : Prop} [Decidable p] (h : ¬ p) : decide p = false := decide_eq_false h
/-- the region's end, not wrapped around -/
def EFit (x : Reg) : Prop := RFit x ∧ x.b + x.n < 18446744073709551616
set_option maxHeartbeats 800000 in
theorem end_any (x : Reg) (w : World) (h : EFit x) : Calls Try.prog 38 #[.agg (regP x).toArray] w fun e w' => e = .returned (.int .u64 (x.b + x.n : Nat)) ∧ Below w.heap.size w w' := by
  obtain ⟨b, n, rd, wr, ex, sc⟩ := x
  obtain ⟨⟨h1, h2⟩, h3⟩ := h
  simp only at h1 h2 h3
  obtain ⟨q, hq⟩ : ∃ q, b + n = q := ⟨_, rfl⟩
  have hw : IntKind.u64.wrap ((b : Int) + (n : Int)) = (q : Int) := u64w (by omega) (by omega)
  change Calls _ _ #[.agg #[.int .u64 (b : Nat), .int .u64 (n : Nat), .bool false, .bool rd, .bool wr, .bool ex, .bool sc]] _ (fun e w' => e = .returned (.int .u64 ((b + n : Nat) : Int)) ∧ Below w.heap.size w w')
  rw [hq]
  clear hq h1 h2 h3
  go_enter Try.func38, Try.ntmps38
  go_wp2
  go_ret
  exact ⟨rfl, (Below.refl _ _).alloc (Nat.le_refl _) _⟩
set_option maxHeartbeats 1600000 in
theorem told_any (x : Reg) (w : World) : Calls Try.prog 33 #[.agg (regP x).toArray] w fun e w' => e = .returned (.agg (regD x).toArray) ∧ Below w.heap.size w w' := by
  obtain ⟨b, n, rd, wr, ex, sc⟩ := x
  change Calls _ _ #[.agg #[.int .u64 (b : Nat), .int .u64 (n : Nat), .bool false, .bool rd, .bool wr, .bool ex, .bool sc]] _ (fun e w' => e = .returned (.agg #[.int .u64 (b : Nat), .int .u64 (n : Nat), .bool rd, .bool wr, .bool ex, .bool sc]) ∧ Below w.heap.size w w')
  go_enter Try.func33, Try.ntmps33
  go_wp2
  have D3 := Blk.new2 w (.cells #[.int .u64 (b : Nat), .int .u64 (n : Nat), .bool false, .bool rd, .bool wr, .bool ex, .bool sc] 67) 34 [.int .u64 (b : Nat), .int .u64 (n : Nat), .bool rd, .bool wr, .bool ex, .bool sc]
  refine bodyPost_ret (results_one Try.results33 _ _ (w.heap.size + 1) 34 _ (0, 0) _ rfl D3 Try.underlying34 rfl info34) rfl ?_
  exact ⟨rfl, ((Below.refl _ _).alloc (Nat.le_refl _) _).alloc (by simp) _⟩
set_option maxHeartbeats 1600000 in
theorem regionOf_any (x : Reg) (w : World) : Calls Try.prog 37 #[.agg (regD x).toArray] w fun e w' => e = .returned (.agg (regP x).toArray) ∧ Below w.heap.size w w' := by
  obtain ⟨b, n, rd, wr, ex, sc⟩ := x
  change Calls _ _ #[.agg #[.int .u64 (b : Nat), .int .u64 (n : Nat), .bool rd, .bool wr, .bool ex, .bool sc]] _ (fun e w' => e = .returned (.agg #[.int .u64 (b : Nat), .int .u64 (n : Nat), .bool false, .bool rd, .bool wr, .bool ex, .bool sc]) ∧ Below w.heap.size w w')
  go_enter Try.func37, Try.ntmps37
  go_wp2
  have D3 := Blk.new2 w (.cells #[.int .u64 (b : Nat), .int .u64 (n : Nat), .bool rd, .bool wr, .bool ex, .bool sc] 34) 67 [.int .u64 (b : Nat), .int .u64 (n : Nat), .bool false, .bool rd, .bool wr, .bool ex, .bool sc]
  refine bodyPost_ret (results_one Try.results37 _ _ (w.heap.size + 1) 67 _ (0, 0) _ rfl D3 Try.underlying67 rfl info67) rfl ?_
  exact ⟨rfl, ((Below.refl _ _).alloc (Nat.le_refl _) _).alloc (by simp) _⟩
set_option maxHeartbeats 1600000 in
theorem open_any (x : Reg) (sec : Bool) (ac : Int) (w : World) (h : 1 ≤ ac ∧ ac ≤ 3) : Calls Try.prog 40 #[.agg (regP x).toArray, .bool sec, .int .i64 ac] w fun e w' => e = .returned (.bool (letB x sec ac)) ∧ Below w.heap.size w w' := by
  obtain ⟨b, n, rd, wr, ex, sc⟩ := x
  obtain ⟨R, hR⟩ : ∃ R, letB ⟨b, n, rd, wr, ex, sc⟩ sec ac = R := ⟨_, rfl⟩
  change Calls _ _ #[.agg #[.int .u64 (b : Nat), .int .u64 (n : Nat), .bool false, .bool rd, .bool wr, .bool ex, .bool sc], _, _] _ (fun e w' => e = .returned (.bool (letB ⟨b, n, rd, wr, ex, sc⟩ sec ac)) ∧ Below w.heap.size w w')
  rw [hR]
  have hc : ac = 1 ∨ ac = 2 ∨ ac = 3 := by omega
  clear h
  have HR := Lib.hid hR
  clear hR
  rcases hc with rfl | rfl | rfl
  all_goals cases sec
  all_goals cases sc
  all_goals
    go_enter Try.func40, Try.ntmps40
    go_wp2
    go_ret
    exact ⟨by rw [← HR.out]; rfl, (Below.refl _ _).alloc (Nat.le_refl _) _⟩
set_option maxHeartbeats 1600000 in
theorem has_any (x : Reg) (a : Nat) (w : World) (hx : RFit x) (ha : U64 a) : Calls Try.prog 42 #[.agg (regD x).toArray, .int .u64 (a : Nat)] w fun e w' => e = .returned (.bool (hasB x a)) ∧ Below w.heap.size w w' := by
  obtain ⟨b, n, rd, wr, ex, sc⟩ := x
  obtain ⟨h1, h2⟩ := hx
  simp only at h1 h2
  unfold U64 at ha
  change Calls _ _ #[.agg #[.int .u64 (b : Nat), .int .u64 (n : Nat), .bool rd, .bool wr, .bool ex, .bool sc], _] _ (fun e w' => e = .returned (.bool (decide (b ≤ a ∧ a < b + n))) ∧ Below w.heap.size w w')
  by_cases hb : b ≤ a
  · obtain ⟨d, hd⟩ : ∃ d, a - b = d := ⟨_, rfl⟩
    have hw : IntKind.u64.wrap ((a : Int) - (b : Int)) = (d : Int) := u64w (by omega) (by omega)
    have e : decide (b ≤ a ∧ a < b + n) = decide (d < n) := by rw [decide_eq_decide]; omega
    rw [e]
    have t1 : decide (b ≤ a) = true := decide_eq_true hb
    clear e hd hb h1 h2 ha
    go_enter Try.func42, Try.ntmps42
    go_wp2
    go_ret
    exact ⟨rfl, (Below.refl _ _).alloc (Nat.le_refl _) _⟩
  · have e : decide (b ≤ a ∧ a < b + n) = false := by rw [decide_eq_false_iff_not]; omega
    rw [e]
    have t1 : decide (b ≤ a) = false := decide_eq_false hb
    clear e hb h1 h2 ha
    go_enter Try.func42, Try.ntmps42
    go_wp2
    go_ret
    exact ⟨rfl, (Below.refl _ _).alloc (Nat.le_refl _) _⟩
end Go.Proofs.Ytelfhpmbnficfaa
