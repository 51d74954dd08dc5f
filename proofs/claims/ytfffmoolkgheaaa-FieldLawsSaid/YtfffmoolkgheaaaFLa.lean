/- FieldLaws: plain arithmetic, and the law's own choice of a prime. No condition. -/
import Derived.Test.YtfffmoolkgheaaaPi
import Derived.Test.YtfffmoolkgheaaaLr
namespace Go.Proofs.Ytfffmoolkgheaaa
open Go.RowKit
set_option linter.unusedVariables false
set_option linter.unusedSimpArgs false
theorem Fld.of_ne {m f v : Nat} (H : Fld m f v) {a : Nat} (ha : a < m) (h0 : a ≠ 0) : ¬ m ∣ ofF m v a := by
  intro hd
  have h1 : ofF m v a = 0 := Nat.eq_zero_of_dvd_of_lt hd (ofF_lt H a)
  have h2 := H.to_of_lt ha
  rw [h1] at h2
  apply h0
  rw [← h2]; unfold toF; simp
theorem Fld.inv_is {m f v : Nat} (H : Fld m f v) {a : Nat} (ha : a < m) (h0 : a ≠ 0) : ofF m v a * (ofF m v a ^ (m - 2) % m) % m = 1 := by
  have hgt := H.gt
  rw [mulmod_right, ← Nat.pow_succ', show (m - 2).succ = m - 1 by omega]
  exact fermat H.prime (H.of_ne ha h0)
theorem eqS (l : List Nat) (h : l.length = 4) (w : World) : (binOp .eql 24 (.agg (natsV .u64 l).toArray) (.agg (natsV .u64 l).toArray)).run Try.prog w = .ok (.bool true) w := (eql24 l l h h w).trans (by simp)
theorem toF_mod (m x : Nat) : toF m (x % m) = toF m x := mulmod_left x (2 ^ 256) m
theorem ofF_comm (m v a b : Nat) : ofF m v (a * b) = ofF m v (b * a) := by rw [Nat.mul_comm]
theorem ofF_assoc (m v a b c : Nat) : ofF m v (ofF m v (a * b) * c) = ofF m v (a * ofF m v (b * c)) := by
  unfold ofF
  have e1 : a * b * v % m * c * v % m = a * b * v * c * v % m := by rw [← mulmod_left (a * b * v % m * c), mulmod_left (a * b * v), mulmod_left]
  have e2 : a * (b * c * v % m) * v % m = a * (b * c * v) * v % m := by rw [← mulmod_left, mulmod_right, mulmod_left]
  rw [e1, e2]; congr 1; ac_rfl
theorem ofF_add (m v a b c : Nat) : ofF m v (a * ((b + c) % m)) = (ofF m v (a * b) + ofF m v (a * c)) % m := by
  unfold ofF
  rw [← mulmod_left, mulmod_right, mulmod_left, Nat.mul_add, Nat.add_mul, Nat.add_mod]
theorem ofF_unit {m f v : Nat} (H : Fld m f v) {a : Nat} (ha : a < m) : ofF m v (a * toF m 1) = a := by
  have h := H.mul_to (ofF m v a) 1
  rw [H.to_of_lt ha, Nat.mul_one, H.to_of_lt ha] at h
  exact h
theorem add_back (m a b : Nat) (ha : a < m) (hb : b < m) : ((a + b) % m + m - b) % m = a := by
  rcases Nat.lt_or_ge (a + b) m with h | h
  · rw [Nat.mod_eq_of_lt h, show a + b + m - b = a + m by omega, Nat.add_mod_right, Nat.mod_eq_of_lt ha]
  · rw [Nat.mod_eq_sub_mod h, Nat.mod_eq_of_lt (show a + b - m < m by omega), show a + b - m + m - b = a by omega, Nat.mod_eq_of_lt ha]
theorem ofF_inv {m f v : Nat} (H : Fld m f v) {a : Nat} (ha : a < m) (h0 : a ≠ 0) : ofF m v (a * toF m (ofF m v a ^ (m - 2))) = toF m 1 := by
  have h := H.mul_to (ofF m v a) (ofF m v a ^ (m - 2))
  rw [H.to_of_lt ha] at h
  rw [h, ← toF_mod, ← H.inv_is ha h0, mulmod_right]
theorem pow_less {m f v : Nat} (H : Fld m f v) {a : Nat} (ha : a < m) (h0 : a ≠ 0) : toF m (ofF m v a ^ (m - 1)) = toF m 1 := by
  rw [← toF_mod, fermat H.prime (H.of_ne ha h0)]
theorem less1 {k : Int} {m f v : Nat} (h : Wh k m f v) : ∃ d0 d1 d2 d3 : Nat, wds 4 m = [d0, d1, d2, d3] ∧ wds 4 (m - 1) = [d0 - 1, d1, d2, d3] ∧ 1 ≤ d0 ∧ d0 < 18446744073709551616 := by
  cases h
  · exact ⟨_, _, _, _, wds_P, by decide +kernel, by decide, by decide⟩
  · exact ⟨_, _, _, _, wds_N, by decide +kernel, by decide, by decide⟩
theorem results_two' {P : Program} {fn : Func} {p q : Tmp} {ty : TypeId} (h : fn.results = #[.tmp q, .cell p ty]) (tmps : Array Value) (w : World) (g : Nat) (t : TypeId) (cs : Array Value) (fr : Nat × Nat) (d : TypeDesc) (v : Value)
    (hp : tmps.getD p undef = .pointer (some ⟨g, 0, none⟩)) (hv : tmps.getD q undef = v) (hg : w.heap[g]? = some (.cells cs t fr))
    (hu : P.underlying ty = some d) (hd : (match d with | .struct _ | .array _ _ => true | _ => false) = true) (hi : (P.info? ty).map (·.size) = some cs.size) :
    (results fn tmps).run P w = .ok (.tuple #[v, .agg cs]) w := by
  have hp' : tmps[p]?.getD undef = .pointer (some ⟨g, 0, none⟩) := by simpa using hp
  have hv' : tmps[q]?.getD undef = v := by simpa using hv
  simp [results, h, hp', hv', asAddr, run_loadVar_row w g t ty cs fr d hg hu hd hi]
set_option maxRecDepth 100000 in
set_option maxHeartbeats 400000 in
theorem prime_even (k : Int) (w : World) (hk : k.tmod 2 = 0) : Calls Try.prog 16 #[.int .i64 k] w fun e w' => e = .returned (.tuple #[.int .i64 1, .agg (natsV .u64 (wds 4 mP)).toArray]) ∧ Below w.heap.size w w' := by
    have HP := Lib.hid DP_any
    have LM := Lib.hid (wds_len 4 mP)
    generalize wds 4 mP = lm at *
    have B1 := Lib.hid (Blk.new w 24 (natsV .u64 (zeros 4)))
    have BEL := Lib.hid ((Below.refl w.heap.size w).alloc (Nat.le_refl _) (.cells (natsV .u64 (zeros 4)).toArray 24))
    go_enter Try.func16, Try.ntmps16
    go_wp2_with fail
    refine (HP.out _).mono ?_
    rintro e w1 ⟨rfl, hbw1⟩
    have C2 := Lib.hid (B1.out.below' hbw1)
    have hbel3 := BEL.out.trans (hbw1.mono BEL.out.size)
    clear B1 hbw1
    go_wp2_with (refine st24 rfl (.tmp 3) (.tmp 7) rfl w.heap.size rfl lm rfl LM.out (zeros 4) C2.out rfl ?_)
    refine bodyPost_ret (v := .tuple #[.int .i64 1, .agg (natsV .u64 lm).toArray]) ?_ rfl ⟨rfl, below_setRow' hbel3 (Nat.le_refl _) _⟩
    exact results_two' Try.results16 _ _ w.heap.size 24 _ (0, 0) _ _ rfl rfl (C2.out.setRow _) Try.underlying24 rfl (by rw [info24, size_nats, LM.out])
set_option maxRecDepth 100000 in
set_option maxHeartbeats 400000 in
theorem prime_odd (k : Int) (w : World) (hk : ¬ k.tmod 2 = 0) : Calls Try.prog 16 #[.int .i64 k] w fun e w' => e = .returned (.tuple #[.int .i64 2, .agg (natsV .u64 (wds 4 mN)).toArray]) ∧ Below w.heap.size w w' := by
    have HP := Lib.hid DN_any
    have LM := Lib.hid (wds_len 4 mN)
    generalize wds 4 mN = lm at *
    have B1 := Lib.hid (Blk.new w 24 (natsV .u64 (zeros 4)))
    have BEL := Lib.hid ((Below.refl w.heap.size w).alloc (Nat.le_refl _) (.cells (natsV .u64 (zeros 4)).toArray 24))
    go_enter Try.func16, Try.ntmps16
    go_wp2_with fail
    refine (HP.out _).mono ?_
    rintro e w1 ⟨rfl, hbw1⟩
    have C2 := Lib.hid (B1.out.below' hbw1)
    have hbel3 := BEL.out.trans (hbw1.mono BEL.out.size)
    clear B1 hbw1
    go_wp2_with (refine st24 rfl (.tmp 3) (.tmp 8) rfl w.heap.size rfl lm rfl LM.out (zeros 4) C2.out rfl ?_)
    refine bodyPost_ret (v := .tuple #[.int .i64 2, .agg (natsV .u64 lm).toArray]) ?_ rfl ⟨rfl, below_setRow' hbel3 (Nat.le_refl _) _⟩
    exact results_two' Try.results16 _ _ w.heap.size 24 _ (0, 0) _ _ rfl rfl (C2.out.setRow _) Try.underlying24 rfl (by rw [info24, size_nats, LM.out])
theorem range3 {w : World} {g : Nat} {la lb lc : List Nat} (hla : la.length = 4) (hlb : lb.length = 4) (h : Blk w g 36 (natsV .u64 (la ++ lb ++ lc))) :
    w.rangeAt g 0 (natsV .u64 la) ∧ w.rangeAt g 4 (natsV .u64 lb) ∧ w.rangeAt g 8 (natsV .u64 lc) := by
  refine ⟨fun j v hv => ?_, fun j v hv => ?_, fun j v hv => ?_⟩
  · have hj := (List.getElem?_eq_some_iff.1 hv).1
    rw [natsV_length, hla] at hj
    rw [h.cell, natsV_append, natsV_append, List.append_assoc, List.getElem?_append_left (by rw [natsV_length, hla]; omega), Nat.zero_add]; exact hv
  · have hj := (List.getElem?_eq_some_iff.1 hv).1
    rw [natsV_length, hlb] at hj
    rw [h.cell, natsV_append, natsV_append, List.append_assoc, List.getElem?_append_right (by rw [natsV_length, hla]; omega), natsV_length, hla, show 4 + j - 4 = j by omega, List.getElem?_append_left (by rw [natsV_length, hlb]; omega)]; exact hv
  · rw [h.cell, natsV_append, natsV_append, List.append_assoc, List.getElem?_append_right (by rw [natsV_length, hla]; omega), natsV_length, hla, List.getElem?_append_right (by rw [natsV_length, hlb]; omega), natsV_length, hlb, show 8 + j - 4 - 4 = j by omega]; exact hv
end Go.Proofs.Ytfffmoolkgheaaa
