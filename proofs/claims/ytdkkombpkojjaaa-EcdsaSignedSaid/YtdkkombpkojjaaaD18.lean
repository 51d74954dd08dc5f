/- Parts of proofs of statements, each text behind those that it stands on. No condition of its own. -/
import Derived.Test.YtdkkombpkojjaaaD14
namespace Go.Proofs.Ytdkkombpkojjaaa
set_option maxRecDepth 100000
set_option maxHeartbeats 1600000
open Go.RowKit
set_option linter.unusedVariables false
set_option linter.unusedSimpArgs false
theorem told_1_0 (w : World) : Calls Try.prog 56 #[.agg #[.int .i64 1, .int .i64 0]] w fun e w' => e = .returned (.int .i64 0) ∧ Below w.heap.size w w' := by
 have bel_ := (Below.refl w.heap.size w).alloc (Nat.le_refl _) (.cells #[.int .i64 1, .int .i64 0] 88)
 have q0 := fun w => (show (binOp .eql 88 (.agg #[.int .i64 1, .int .i64 0]) (.agg #[.int .i64 1, .int .i64 61])).run Try.prog w = .ok (.bool false) w from by kernel_rfl)
 have q1 := fun w => (show (binOp .eql 88 (.agg #[.int .i64 1, .int .i64 0]) (.agg #[.int .i64 1, .int .i64 62])).run Try.prog w = .ok (.bool false) w from by kernel_rfl)
 have q2 := fun w => (show (binOp .eql 88 (.agg #[.int .i64 1, .int .i64 0]) (.agg #[.int .i64 2, .int .i64 52])).run Try.prog w = .ok (.bool false) w from by kernel_rfl)
 have q3 := fun w => (show (binOp .eql 88 (.agg #[.int .i64 1, .int .i64 0]) (.agg #[.int .i64 2, .int .i64 53])).run Try.prog w = .ok (.bool false) w from by kernel_rfl)
 go_enter Try.func56, Try.ntmps56
 go_wp2_with fail
 go_ret
 exact ⟨rfl, bel_⟩
theorem told_1_61 (w : World) : Calls Try.prog 56 #[.agg #[.int .i64 1, .int .i64 61]] w fun e w' => e = .returned (.int .i64 71) ∧ Below w.heap.size w w' := by
 have bel_ := (Below.refl w.heap.size w).alloc (Nat.le_refl _) (.cells #[.int .i64 1, .int .i64 61] 88)
 have q0 := fun w => (show (binOp .eql 88 (.agg #[.int .i64 1, .int .i64 61]) (.agg #[.int .i64 1, .int .i64 61])).run Try.prog w = .ok (.bool true) w from by kernel_rfl)
 have q1 := fun w => (show (binOp .eql 88 (.agg #[.int .i64 1, .int .i64 61]) (.agg #[.int .i64 1, .int .i64 62])).run Try.prog w = .ok (.bool false) w from by kernel_rfl)
 have q2 := fun w => (show (binOp .eql 88 (.agg #[.int .i64 1, .int .i64 61]) (.agg #[.int .i64 2, .int .i64 52])).run Try.prog w = .ok (.bool false) w from by kernel_rfl)
 have q3 := fun w => (show (binOp .eql 88 (.agg #[.int .i64 1, .int .i64 61]) (.agg #[.int .i64 2, .int .i64 53])).run Try.prog w = .ok (.bool false) w from by kernel_rfl)
 go_enter Try.func56, Try.ntmps56
 go_wp2_with fail
 go_ret
 exact ⟨rfl, bel_⟩
theorem told_1_62 (w : World) : Calls Try.prog 56 #[.agg #[.int .i64 1, .int .i64 62]] w fun e w' => e = .returned (.int .i64 71) ∧ Below w.heap.size w w' := by
 have bel_ := (Below.refl w.heap.size w).alloc (Nat.le_refl _) (.cells #[.int .i64 1, .int .i64 62] 88)
 have q0 := fun w => (show (binOp .eql 88 (.agg #[.int .i64 1, .int .i64 62]) (.agg #[.int .i64 1, .int .i64 61])).run Try.prog w = .ok (.bool false) w from by kernel_rfl)
 have q1 := fun w => (show (binOp .eql 88 (.agg #[.int .i64 1, .int .i64 62]) (.agg #[.int .i64 1, .int .i64 62])).run Try.prog w = .ok (.bool true) w from by kernel_rfl)
 have q2 := fun w => (show (binOp .eql 88 (.agg #[.int .i64 1, .int .i64 62]) (.agg #[.int .i64 2, .int .i64 52])).run Try.prog w = .ok (.bool false) w from by kernel_rfl)
 have q3 := fun w => (show (binOp .eql 88 (.agg #[.int .i64 1, .int .i64 62]) (.agg #[.int .i64 2, .int .i64 53])).run Try.prog w = .ok (.bool false) w from by kernel_rfl)
 go_enter Try.func56, Try.ntmps56
 go_wp2_with fail
 go_ret
 exact ⟨rfl, bel_⟩
theorem told_2_0 (w : World) : Calls Try.prog 56 #[.agg #[.int .i64 2, .int .i64 0]] w fun e w' => e = .returned (.int .i64 0) ∧ Below w.heap.size w w' := by
 have bel_ := (Below.refl w.heap.size w).alloc (Nat.le_refl _) (.cells #[.int .i64 2, .int .i64 0] 88)
 have q0 := fun w => (show (binOp .eql 88 (.agg #[.int .i64 2, .int .i64 0]) (.agg #[.int .i64 1, .int .i64 61])).run Try.prog w = .ok (.bool false) w from by kernel_rfl)
 have q1 := fun w => (show (binOp .eql 88 (.agg #[.int .i64 2, .int .i64 0]) (.agg #[.int .i64 1, .int .i64 62])).run Try.prog w = .ok (.bool false) w from by kernel_rfl)
 have q2 := fun w => (show (binOp .eql 88 (.agg #[.int .i64 2, .int .i64 0]) (.agg #[.int .i64 2, .int .i64 52])).run Try.prog w = .ok (.bool false) w from by kernel_rfl)
 have q3 := fun w => (show (binOp .eql 88 (.agg #[.int .i64 2, .int .i64 0]) (.agg #[.int .i64 2, .int .i64 53])).run Try.prog w = .ok (.bool false) w from by kernel_rfl)
 go_enter Try.func56, Try.ntmps56
 go_wp2_with fail
 go_ret
 exact ⟨rfl, bel_⟩
theorem told_2_52 (w : World) : Calls Try.prog 56 #[.agg #[.int .i64 2, .int .i64 52]] w fun e w' => e = .returned (.int .i64 73) ∧ Below w.heap.size w w' := by
 have bel_ := (Below.refl w.heap.size w).alloc (Nat.le_refl _) (.cells #[.int .i64 2, .int .i64 52] 88)
 have q0 := fun w => (show (binOp .eql 88 (.agg #[.int .i64 2, .int .i64 52]) (.agg #[.int .i64 1, .int .i64 61])).run Try.prog w = .ok (.bool false) w from by kernel_rfl)
 have q1 := fun w => (show (binOp .eql 88 (.agg #[.int .i64 2, .int .i64 52]) (.agg #[.int .i64 1, .int .i64 62])).run Try.prog w = .ok (.bool false) w from by kernel_rfl)
 have q2 := fun w => (show (binOp .eql 88 (.agg #[.int .i64 2, .int .i64 52]) (.agg #[.int .i64 2, .int .i64 52])).run Try.prog w = .ok (.bool true) w from by kernel_rfl)
 have q3 := fun w => (show (binOp .eql 88 (.agg #[.int .i64 2, .int .i64 52]) (.agg #[.int .i64 2, .int .i64 53])).run Try.prog w = .ok (.bool false) w from by kernel_rfl)
 go_enter Try.func56, Try.ntmps56
 go_wp2_with fail
 go_ret
 exact ⟨rfl, bel_⟩
theorem told_2_53 (w : World) : Calls Try.prog 56 #[.agg #[.int .i64 2, .int .i64 53]] w fun e w' => e = .returned (.int .i64 73) ∧ Below w.heap.size w w' := by
 have bel_ := (Below.refl w.heap.size w).alloc (Nat.le_refl _) (.cells #[.int .i64 2, .int .i64 53] 88)
 have q0 := fun w => (show (binOp .eql 88 (.agg #[.int .i64 2, .int .i64 53]) (.agg #[.int .i64 1, .int .i64 61])).run Try.prog w = .ok (.bool false) w from by kernel_rfl)
 have q1 := fun w => (show (binOp .eql 88 (.agg #[.int .i64 2, .int .i64 53]) (.agg #[.int .i64 1, .int .i64 62])).run Try.prog w = .ok (.bool false) w from by kernel_rfl)
 have q2 := fun w => (show (binOp .eql 88 (.agg #[.int .i64 2, .int .i64 53]) (.agg #[.int .i64 2, .int .i64 52])).run Try.prog w = .ok (.bool false) w from by kernel_rfl)
 have q3 := fun w => (show (binOp .eql 88 (.agg #[.int .i64 2, .int .i64 53]) (.agg #[.int .i64 2, .int .i64 53])).run Try.prog w = .ok (.bool true) w from by kernel_rfl)
 go_enter Try.func56, Try.ntmps56
 go_wp2_with fail
 go_ret
 exact ⟨rfl, bel_⟩
theorem ix2_0 {la lb : List Nat} (ha : la.length = 4) (hb : lb.length = 4) (w : World) : (Instr.index 90 (.agg (natsV .u64 (la ++ lb)).toArray) (.int .i64 0)).run Try.prog w = .ok (.agg (natsV .u64 la).toArray) w := by
 obtain ⟨a, b, c, d, rfl⟩ := four_ol ha
 obtain ⟨e, f, g, h, rfl⟩ := four_ol hb
 kernel_rfl
theorem Fld.mul_to {m f v : Nat} (H : Fld m f v) (p q : Nat) : ofF m v (toF m p * toF m q) = toF m (p * q) := by
 unfold ofF toF
 have e1 : p * 2 ^ 256 % m * (q * 2 ^ 256 % m) * v % m = p * 2 ^ 256 * (q * 2 ^ 256) * v % m := by
   rw [← mulmod_left, ← Nat.mul_mod, mulmod_left]
 have e2 : p * 2 ^ 256 * (q * 2 ^ 256) * v = p * q * 2 ^ 256 * (v * 2 ^ 256) := by ac_rfl
 rw [e1, e2, ← mulmod_right, H.inv, Nat.mul_one]
theorem Fld.to_of_lt {m f v : Nat} (H : Fld m f v) {a : Nat} (ha : a < m) : toF m (ofF m v a) = a := by rw [H.to_of, Nat.mod_eq_of_lt ha]
def pw (m u e s : Nat) : Nat := toF m (u ^ (e / 2 ^ s))
theorem pw_sq {m f v : Nat} (H : Fld m f v) (u e s : Nat) : ofF m v (pw m u e (s + 1) * pw m u e (s + 1)) = toF m (u ^ (2 * (e / 2 ^ (s + 1)))) := by
 unfold pw; rw [H.mul_to, ← Nat.pow_add, ← Nat.two_mul]
theorem bit_split (e s : Nat) : e / 2 ^ s = 2 * (e / 2 ^ (s + 1)) + e / 2 ^ s % 2 := by
 rw [Nat.pow_succ, ← Nat.div_div_eq_div_mul]; omega
theorem pw_0 (m u e s : Nat) (h : e / 2 ^ s % 2 = 0) : toF m (u ^ (2 * (e / 2 ^ (s + 1)))) = pw m u e s := by
 unfold pw; rw [bit_split e s, h]; rfl
theorem pw_1 {m f v : Nat} (H : Fld m f v) (a e s : Nat) (ha : a < m) (h : e / 2 ^ s % 2 = 1) : ofF m v (toF m (ofF m v a ^ (2 * (e / 2 ^ (s + 1)))) * a) = pw m (ofF m v a) e s := by
 have e1 : pw m (ofF m v a) e s = toF m (ofF m v a ^ (2 * (e / 2 ^ (s + 1))) * ofF m v a) := by
   unfold pw; rw [bit_split e s, h, Nat.pow_succ]
 rw [e1, ← H.mul_to, H.to_of_lt ha]
theorem pw_top (m u e : Nat) (he : e < 2 ^ 256) : pw m u e (bl e) = toF m 1 := by
 unfold pw
 rw [Nat.div_eq_of_lt ((bl_le_iff (bl e) e).1 (Nat.le_refl _)), Nat.pow_zero]
theorem pw_lt {m f v : Nat} (H : Fld m f v) (u e s : Nat) : pw m u e s < m := toF_lt H _
theorem sq_fit {m f v : Nat} (H : Fld m f v) {x y : Nat} (hx : x < m) (hy : y < m) : x * y < m * 2 ^ 256 ∧ x < 2 ^ 256 ∧ y < 2 ^ 256 := by
 have := H.lt
 exact ⟨Nat.lt_of_lt_of_le (Nat.mul_lt_mul_of_lt_of_lt hx hy) (Nat.mul_le_mul_left m (Nat.le_of_lt this)), by omega, by omega⟩
theorem power_any (m f v a e : Nat) (w : World) (H : Fld m f v) (ha : a < m) (he : e < 2 ^ 256) :
   Calls Try.prog 53 #[.agg (primL (wds 4 m) f).toArray, .agg (natsV .u64 (wds 4 a)).toArray, .agg (natsV .u64 (wds 4 e)).toArray] w fun e_ w' => e_ = .returned (.agg (natsV .u64 (wds 4 (toF m (ofF m v a ^ e)))).toArray) ∧ Below w.heap.size w w' := by
 have HIN := Hd (fun w => in_any m f v 1 w H (by decide))
 rw [← num_lit1] at HIN
 have HBL := Hd (fun w => Bits_any e w he)
 have hb256 : bl e ≤ 256 := (bl_le_iff 256 e).2 he
 have htop := pw_top m (ofF m v a) e he
 have HTQ := Hd (fun s w => ptimes_any m f v (pw m (ofF m v a) e (s + 1)) (pw m (ofF m v a) e (s + 1)) w H (sq_fit H (pw_lt H (ofF m v a) e (s + 1)) (pw_lt H (ofF m v a) e (s + 1))).1 (Nat.lt_trans (pw_lt H (ofF m v a) e (s + 1)) H.lt) (Nat.lt_trans (pw_lt H (ofF m v a) e (s + 1)) H.lt))
 have HTA := Hd (fun s w => ptimes_any m f v (toF m (ofF m v a ^ (2 * (e / 2 ^ (s + 1))))) a w H (sq_fit H (toF_lt H (ofF m v a ^ (2 * (e / 2 ^ (s + 1))))) ha).1 (Nat.lt_trans (toF_lt H _) H.lt) (Nat.lt_trans ha H.lt))
 have HSQ := Hd (fun s => pw_sq H (ofF m v a) e s)
 have HP0 := Hd (fun s => pw_0 m (ofF m v a) e s)
 have HP1 := Hd (fun s => pw_1 H a e s ha)
 have HBT := Hd (fun (s : Nat) (h : s < 256) w => Bit_any e (s : Int) w (by omega) (by omega))
 have HBE := Hd (fun (s : Nat) (h : s < 256) => bitZ_in e s h)
 have hend : toF m (ofF m v a ^ e) = pw m (ofF m v a) e 0 := by unfold pw; simp
 rw [hend]
 obtain ⟨X, hX⟩ : ∃ X : Nat → Nat, X = pw m (ofF m v a) e := ⟨_, rfl⟩
 obtain ⟨Y, hY⟩ : ∃ Y : Nat → Nat, Y = fun s => toF m (ofF m v a ^ (2 * (e / 2 ^ (s + 1)))) := ⟨_, rfl⟩
 rw [← hX] at HTQ HSQ HP0 HP1 htop ⊢
 have HY1 := Hd (fun s w => show Calls Try.prog 51 #[.agg (primL (wds 4 m) f).toArray, .agg (natsV .u64 (wds 4 (X (s + 1)))).toArray, .agg (natsV .u64 (wds 4 (X (s + 1)))).toArray] w fun e_ w' => e_ = .returned (.agg (natsV .u64 (wds 4 (Y s))).toArray) ∧ Below w.heap.size w w' from by rw [hY]; have := HTQ.out s w; rw [HSQ.out s] at this; exact this)
 have HY2 := Hd (fun s (h : e / 2 ^ s % 2 = 1) w => show Calls Try.prog 51 #[.agg (primL (wds 4 m) f).toArray, .agg (natsV .u64 (wds 4 (Y s))).toArray, .agg (natsV .u64 (wds 4 a)).toArray] w fun e_ w' => e_ = .returned (.agg (natsV .u64 (wds 4 (X s))).toArray) ∧ Below w.heap.size w w' from by rw [hY]; have := HTA.out s w; rw [HP1.out s h] at this; exact this)
 have HY0 := Hd (fun s (h : e / 2 ^ s % 2 = 0) => show Y s = X s from by rw [hY]; exact HP0.out s h)
 rw [← htop] at HIN
 have LM := Hd (wds_len 4 m)
 have LA := Hd (wds_len 4 a)
 have LE := Hd (wds_len 4 e)
 have LX := Hd (fun s => wds_len 4 (X s))
 have LY := Hd (fun s => wds_len 4 (Y s))
 have LP := Hd (primL_ok (wds 4 m) f (wds_len 4 m))
 clear HTQ HTA HSQ HP0 HP1 hX hY htop hend he ha
 generalize wds 4 m = lm at *
 generalize wds 4 a = la at *
 generalize wds 4 e = le at *
 obtain ⟨T, hT⟩ : ∃ T, T = bl e := ⟨_, rfl⟩
 rw [← hT] at HIN HBL hb256
 have hLT := LX.out T
 have B1 := Hd ((((Blk.new w 82 (primL lm f)).alloc (.cells (natsV .u64 la).toArray 24)).alloc (.cells (natsV .u64 le).toArray 24)).alloc (.cells (natsV .u64 (zeros 4)).toArray 24))
 have B2 := Hd (((Blk.new2 w (.cells (primL lm f).toArray 82) 24 (natsV .u64 la)).alloc (.cells (natsV .u64 le).toArray 24)).alloc (.cells (natsV .u64 (zeros 4)).toArray 24))
 have B3 := Hd ((Blk.new3 w (.cells (primL lm f).toArray 82) (.cells (natsV .u64 la).toArray 24) 24 (natsV .u64 le)).alloc (.cells (natsV .u64 (zeros 4)).toArray 24))
 have B4 := Hd (Blk.new4 w (.cells (primL lm f).toArray 82) (.cells (natsV .u64 la).toArray 24) (.cells (natsV .u64 le).toArray 24) 24 (natsV .u64 (zeros 4)))
 clear hT H
 have BEL := Hd (((((Below.refl w.heap.size w).alloc (Nat.le_refl _) (.cells (primL lm f).toArray 82)).alloc (by simp) (.cells (natsV .u64 la).toArray 24)).alloc (by simp; omega) (.cells (natsV .u64 le).toArray 24)).alloc (by simp; omega) (.cells (natsV .u64 (zeros 4)).toArray 24))
 go_enter Try.func53, Try.ntmps53
 go_wp2_with (first | (refine ld83 rfl (.tmp 3) rfl w.heap.size rfl (primL lm f) B1.out LP.out.1 ?_))
 refine (HIN.out _).mono ?_
 rintro e w1 ⟨rfl, hbw1⟩
 have C2 := Hd (B1.out.below' hbw1)
 have C3 := Hd (B2.out.below' hbw1)
 have C4 := Hd (B3.out.below' hbw1)
 have C5 := Hd (B4.out.below' hbw1)
 have hbel6 := BEL.out.trans (hbw1.mono BEL.out.size)
 have Z8 := Hd (Blk.new w1 24 (natsV .u64 (zeros 4)))
 have hz9 := Hd (below_setRow' (hbel6.alloc hbel6.size (.cells (natsV .u64 (zeros 4)).toArray 24)) hbel6.size (natsV .u64 (wds 4 (X T))).toArray)
 have Y10 := Hd ((C2.out.alloc (.cells (natsV .u64 (zeros 4)).toArray 24)).row (natsV .u64 (wds 4 (X T))).toArray (Nat.ne_of_lt C2.out.lt))
 have Y11 := Hd ((C3.out.alloc (.cells (natsV .u64 (zeros 4)).toArray 24)).row (natsV .u64 (wds 4 (X T))).toArray (Nat.ne_of_lt C3.out.lt))
 have Y12 := Hd ((C4.out.alloc (.cells (natsV .u64 (zeros 4)).toArray 24)).row (natsV .u64 (wds 4 (X T))).toArray (Nat.ne_of_lt C4.out.lt))
 have Y13 := Hd ((C5.out.alloc (.cells (natsV .u64 (zeros 4)).toArray 24)).row (natsV .u64 (wds 4 (X T))).toArray (Nat.ne_of_lt C5.out.lt))
 have Y14 := Hd (Z8.out.setRow (natsV .u64 (wds 4 (X T))))
 clear B1 B2 B3 B4 hbw1
 go_wp2_with (first | (refine st24 rfl (.tmp 7) (.tmp 11) rfl w1.heap.size rfl (wds 4 (X T)) rfl hLT (zeros 4) Z8.out rfl ?_; generalize hW : World.setRow _ _ _ = w7; have D16 := Hd (show Blk w7 w.heap.size 82 ((primL lm f)) from (by rw [← hW]; exact Y10.out)); have D17 := Hd (show Blk w7 (w.heap.size + 1) 24 (natsV .u64 la) from (by rw [← hW]; exact Y11.out)); have D18 := Hd (show Blk w7 (w.heap.size + 1 + 1) 24 (natsV .u64 le) from (by rw [← hW]; exact Y12.out)); have D19 := Hd (show Blk w7 (w.heap.size + 1 + 1 + 1) 24 (natsV .u64 (zeros 4)) from (by rw [← hW]; exact Y13.out)); have D20 := Hd (show Blk w7 w1.heap.size 24 (natsV .u64 (wds 4 (X T))) from (by rw [← hW]; exact Y14.out)); have LE_D20 := (hbel6).size; have NE_D16 := Nat.ne_of_lt C2.out.lt; have NE_D17 := Nat.ne_of_lt C3.out.lt; have NE_D18 := Nat.ne_of_lt C4.out.lt; have NE_D19 := Nat.ne_of_lt C5.out.lt; have hbel21 : Below w.heap.size w w7 := (by rw [← hW]; exact hz9.out); clear hW Z8 hz9 C2 C3 C4 C5 Y10 Y11 Y12 Y13 Y14 hbel6; generalize w1.heap.size = G15 at *) | (refine ld24 rfl (.tmp 5) rfl (w.heap.size + 1 + 1) rfl le D18.out LE.out ?_))
 refine (HBL.out _).mono ?_
 rintro e w22 ⟨rfl, hbw22⟩
 have C23 := Hd (D16.out.below' hbw22)
 have C24 := Hd (D17.out.below' hbw22)
 have C25 := Hd (D18.out.below' hbw22)
 have C26 := Hd (D19.out.below' hbw22)
 have C27 := Hd (D20.out.below' hbw22)
 have hbel28 := hbel21.trans (hbw22.mono hbel21.size)
 clear D16 D17 D18 D19 D20 hbw22 hbel21
 go_wp2_with fail
 go_loopw [8] (fun i wr => ∃ s : Nat, s ≤ 256 ∧ i = .int .i64 ((s : Int) - 1) ∧ Blk wr w.heap.size 82 (primL lm f) ∧ Blk wr (w.heap.size + 1) 24 (natsV .u64 la) ∧ Blk wr (w.heap.size + 1 + 1) 24 (natsV .u64 le) ∧ Blk wr (w.heap.size + 1 + 1 + 1) 24 (natsV .u64 (zeros 4)) ∧ Blk wr G15 24 (natsV .u64 (wds 4 (X s))) ∧ Below w.heap.size w wr) (fun i _ => (intOf i + 1).toNat)
 case atStart => exact ⟨T, hb256, by first | rfl | go_num, C23.out, C24.out, C25.out, C26.out, C27.out, hbel28⟩
 case round =>
   clear C23 C24 C25 C26 C27 hbel28 HIN HBL hLT
   obtain ⟨s, hs, rfl, k1, k2, k3, k4, k5, hbel⟩ := hrel
   have K1 := Hd k1
   have K2 := Hd k2
   have K3 := Hd k3
   have K4 := Hd k4
   have K5 := Hd k5
   clear k1 k2 k3 k4 k5
   rcases s with _ | s
   · rw [show ((0 : Nat) : Int) - 1 = -1 from rfl]
     as_aux_lemma =>
     have hL0 := LX.out 0
     clear HY1 HY2 HY0 HBT HBE
     go_wp2_with (first | (refine ld24 rfl (.tmp 7) rfl G15 rfl (wds 4 (X 0)) K5.out hL0 ?_) | (refine st24 rfl (.tmp 6) (.tmp 31) rfl (w.heap.size + 1 + 1 + 1) rfl (wds 4 (X 0)) rfl hL0 (zeros 4) K4.out rfl ?_))
     refine bodyPost_ret (v := .agg (natsV .u64 (wds 4 (X 0))).toArray) ?_ rfl ⟨rfl, below_setRow' hbel (by omega) _⟩
     exact ret24 Try.results53 _ _ (w.heap.size + 1 + 1 + 1) (wds 4 (X 0)) rfl (K4.out.setRow _) hL0
   · rw [show ((s + 1 : Nat) : Int) - 1 = (s : Int) by omega]
     as_aux_lemma =>
     have hs256 : s < 256 := by omega
     have hsn : (0 : Int) ≤ (s : Int) := by omega
     have hL1 := LX.out (s + 1)
     have hLs := LX.out s
     have hLy := LY.out s
     have HQ1 := Hd (HY1.out s)
     have HB1 := Hd (HBT.out s hs256)
     have HBEs := Hd (HBE.out s hs256)
     rw [HBEs.out] at HB1
     have HQ2 := Hd (HY2.out s)
     have HQ0 := Hd (HY0.out s)
     have hbit : e / 2 ^ s % 2 = 0 ∨ e / 2 ^ s % 2 = 1 := Nat.mod_two_eq_zero_or_one _
     clear HY1 HY2 HY0 HBT HBE HBEs LX LY
     generalize wds 4 (X (s + 1)) = l1 at *
     obtain ⟨ls, hls⟩ : ∃ l, l = wds 4 (X s) := ⟨_, rfl⟩
     rw [← hls] at HQ2 hLs
     have HLS := Hd hls
     obtain ⟨ly, hly⟩ : ∃ l, l = wds 4 (Y s) := ⟨_, rfl⟩
     rw [← hly] at HQ1 HQ2 hLy
     have HLYS := Hd (fun h => show ly = ls from by rw [hly, hls, HQ0.out h])
     clear hls hly HQ0
     generalize e / 2 ^ s % 2 = bt at *
     go_wp2_with (first | (refine ld83 rfl (.tmp 3) rfl w.heap.size rfl (primL lm f) K1.out LP.out.1 ?_) | (refine ld24 rfl (.tmp 7) rfl G15 rfl l1 K5.out hL1 ?_))
     refine (HQ1.out _).mono ?_
     rintro e w401 ⟨rfl, hbw401⟩
     have C402 := Hd (K1.out.below' hbw401)
     have C403 := Hd (K2.out.below' hbw401)
     have C404 := Hd (K3.out.below' hbw401)
     have C405 := Hd (K4.out.below' hbw401)
     have C406 := Hd (K5.out.below' hbw401)
     have hbel407 := hbel.trans (hbw401.mono hbel.size)
     have hz409 := Hd (below_setRow' hbel407 (show w.heap.size ≤ G15 by first | exact Nat.le_refl _ | omega) (natsV .u64 ly).toArray)
     have Y410 := Hd (C402.out.row (natsV .u64 ly).toArray (show w.heap.size ≠ G15 by first | omega | assumption | exact Ne.symm (by assumption)))
     have Y411 := Hd (C403.out.row (natsV .u64 ly).toArray (show (w.heap.size + 1) ≠ G15 by first | omega | assumption | exact Ne.symm (by assumption)))
     have Y412 := Hd (C404.out.row (natsV .u64 ly).toArray (show (w.heap.size + 1 + 1) ≠ G15 by first | omega | assumption | exact Ne.symm (by assumption)))
     have Y413 := Hd (C405.out.row (natsV .u64 ly).toArray (show (w.heap.size + 1 + 1 + 1) ≠ G15 by first | omega | assumption | exact Ne.symm (by assumption)))
     have Y414 := Hd (C406.out.setRow (natsV .u64 ly))
     clear K1 K2 K3 K4 K5 hbw401 hbel
     go_wp2_with (first | (refine st24 rfl (.tmp 7) (.tmp 22) rfl G15 rfl ly rfl hLy l1 C406.out hL1 ?_; generalize hW : World.setRow _ _ _ = w408; have D415 := Hd (show Blk w408 w.heap.size 82 ((primL lm f)) from (by rw [← hW]; exact Y410.out)); have D416 := Hd (show Blk w408 (w.heap.size + 1) 24 (natsV .u64 la) from (by rw [← hW]; exact Y411.out)); have D417 := Hd (show Blk w408 (w.heap.size + 1 + 1) 24 (natsV .u64 le) from (by rw [← hW]; exact Y412.out)); have D418 := Hd (show Blk w408 (w.heap.size + 1 + 1 + 1) 24 (natsV .u64 (zeros 4)) from (by rw [← hW]; exact Y413.out)); have D419 := Hd (show Blk w408 G15 24 (natsV .u64 ly) from (by rw [← hW]; exact Y414.out)); have hbel420 : Below w.heap.size w w408 := (by rw [← hW]; exact hz409.out); clear hW hz409 C402 C403 C404 C405 C406 Y410 Y411 Y412 Y413 Y414 hbel407) | (refine ld24 rfl (.tmp 5) rfl (w.heap.size + 1 + 1) rfl le D417.out LE.out ?_))
     refine (HB1.out _).mono ?_
     rintro e w421 ⟨rfl, hbw421⟩
     have C422 := Hd (D415.out.below' hbw421)
     have C423 := Hd (D416.out.below' hbw421)
     have C424 := Hd (D417.out.below' hbw421)
     have C425 := Hd (D418.out.below' hbw421)
     have C426 := Hd (D419.out.below' hbw421)
     have hbel427 := hbel420.trans (hbw421.mono hbel420.size)
     clear D415 D416 D417 D418 D419 hbw421 hbel420
     rcases hbit with rfl | rfl
     · have hyl := HLYS.out rfl
       subst hyl
       go_wp2_with fail
       go_roundw
       case rel => exact ⟨s, by omega, by go_num, C422.out, C423.out, C424.out, C425.out, by rw [← HLS.out]; exact C426.out, hbel427⟩
       case measure => simp [intOf] <;> omega
     · go_wp2_with (first | (refine ld83 rfl (.tmp 3) rfl w.heap.size rfl (primL lm f) C422.out LP.out.1 ?_) | (refine ld24 rfl (.tmp 7) rfl G15 rfl ly C426.out hLy ?_) | (refine ld24 rfl (.tmp 4) rfl (w.heap.size + 1) rfl la C423.out LA.out ?_))
       refine (HQ2.out (by first | trivial | rfl) _).mono ?_
       rintro e w428 ⟨rfl, hbw428⟩
       have C429 := Hd (C422.out.below' hbw428)
       have C430 := Hd (C423.out.below' hbw428)
       have C431 := Hd (C424.out.below' hbw428)
       have C432 := Hd (C425.out.below' hbw428)
       have C433 := Hd (C426.out.below' hbw428)
       have hbel434 := hbel427.trans (hbw428.mono hbel427.size)
       have hz436 := Hd (below_setRow' hbel434 (show w.heap.size ≤ G15 by first | exact Nat.le_refl _ | omega) (natsV .u64 ls).toArray)
       have Y437 := Hd (C429.out.row (natsV .u64 ls).toArray (show w.heap.size ≠ G15 by first | omega | assumption | exact Ne.symm (by assumption)))
       have Y438 := Hd (C430.out.row (natsV .u64 ls).toArray (show (w.heap.size + 1) ≠ G15 by first | omega | assumption | exact Ne.symm (by assumption)))
       have Y439 := Hd (C431.out.row (natsV .u64 ls).toArray (show (w.heap.size + 1 + 1) ≠ G15 by first | omega | assumption | exact Ne.symm (by assumption)))
       have Y440 := Hd (C432.out.row (natsV .u64 ls).toArray (show (w.heap.size + 1 + 1 + 1) ≠ G15 by first | omega | assumption | exact Ne.symm (by assumption)))
       have Y441 := Hd (C433.out.setRow (natsV .u64 ls))
       clear C422 C423 C424 C425 C426 hbw428 hbel427
       go_wp2_with (refine st24 rfl (.tmp 7) (.tmp 30) rfl G15 rfl ls rfl hLs ly C433.out hLy ?_; generalize hW : World.setRow _ _ _ = w435; have D442 := Hd (show Blk w435 w.heap.size 82 ((primL lm f)) from (by rw [← hW]; exact Y437.out)); have D443 := Hd (show Blk w435 (w.heap.size + 1) 24 (natsV .u64 la) from (by rw [← hW]; exact Y438.out)); have D444 := Hd (show Blk w435 (w.heap.size + 1 + 1) 24 (natsV .u64 le) from (by rw [← hW]; exact Y439.out)); have D445 := Hd (show Blk w435 (w.heap.size + 1 + 1 + 1) 24 (natsV .u64 (zeros 4)) from (by rw [← hW]; exact Y440.out)); have D446 := Hd (show Blk w435 G15 24 (natsV .u64 ls) from (by rw [← hW]; exact Y441.out)); have hbel447 : Below w.heap.size w w435 := (by rw [← hW]; exact hz436.out); clear hW hz436 C429 C430 C431 C432 C433 Y437 Y438 Y439 Y440 Y441 hbel434)
       go_roundw
       case rel => exact ⟨s, by omega, by go_num, D442.out, D443.out, D444.out, D445.out, by rw [← HLS.out]; exact D446.out, hbel447⟩
       case measure => simp [intOf] <;> omega
theorem num_lit2 : (.agg #[.int .u64 2, .int .u64 0, .int .u64 0, .int .u64 0] : Value) = .agg (natsV .u64 (wds 4 2)).toArray := by
 rw [show wds 4 2 = [2, 0, 0, 0] by decide +kernel]; rfl
theorem less_two (m : Nat) (h : 2 ≤ m) : wds 4 (m + 2 ^ 256 - 2) = wds 4 (m - 2) := by
 have e : m + 2 ^ 256 - 2 = (m - 2) + 2 ^ (64 * 4) * 1 := by rw [show 2 ^ (64 * 4) = 2 ^ 256 from rfl]; omega
 rw [e, wds_add_pow]
theorem eqZ (a : Nat) (ha : a < 2 ^ 256) (w : World) : (binOp .eql 24 (.agg (natsV .u64 (wds 4 a)).toArray) (.agg #[.int .u64 0, .int .u64 0, .int .u64 0, .int .u64 0])).run Try.prog w = .ok (.bool (decide (a = 0))) w := by
 rw [num_lit0, eql24 _ _ (wds_len 4 a) (wds_len 4 0), wds_inj 4 a 0 (by exact ha) (by decide)]
theorem Inv_ok (k : Int) (m f v : Nat) (a : Nat) (w : World) (H : Fld m f v) (ha : a < m) (h0 : a ≠ 0) (HP : POk 1 (wds 4 a) k (wds 4 m) f) :
   Calls Try.prog 29 #[.int .i64 k, .agg (natsV .u64 (wds 4 a)).toArray] w fun e w' => e = .returned (.tuple #[.agg (natsV .u64 (wds 4 (toF m (ofF m v a ^ (m - 2))))).toArray, .int .i64 0]) ∧ Below w.heap.size w w' := by
 have HPF := Hd HP
 have hm := H.lt
 have hgt := H.gt
 have HC := Hd (fun w => power_any m f v a (m - 2) w H ha (by omega))
 have HSB := Hd (fun w => Sub_any m 2 w hm (by decide))
 clear HP
 rw [less_two m (by omega), show lt01 m 2 = 0 from if_neg (by omega), ← num_lit2] at HSB
 have Q := Hd (fun w => eqZ a (Nat.lt_trans ha hm) w)
 rw [decide_eq_false h0] at Q
 have L2 := Hd (wds_len 4 (m - 2))
 generalize wds 4 (m - 2) = l2 at *
 have LM := Hd (wds_len 4 m)
 have LR := Hd (wds_len 4 (toF m (ofF m v a ^ (m - 2))))
 have LP := Hd (primL_ok (wds 4 m) f (wds_len 4 m))
 clear H ha h0 hm hgt
 generalize wds 4 (toF m (ofF m v a ^ (m - 2))) = lr at *
 have LA := Hd (wds_len 4 a)
 generalize wds 4 a = la at *
 generalize wds 4 m = lm at *
 have B1 := Hd ((Blk.new w 24 (natsV .u64 la)).alloc (.cells (natsV .u64 (zeros 4)).toArray 24))
 have B2 := Hd (Blk.new2 w (.cells (natsV .u64 la).toArray 24) 24 (natsV .u64 (zeros 4)))
 have BEL := Hd (((Below.refl w.heap.size w).alloc (Nat.le_refl _) (.cells (natsV .u64 la).toArray 24)).alloc (by simp) (.cells (natsV .u64 (zeros 4)).toArray 24))
 have V1 := Hd (B1.out.alloc (.cells (natsV .u64 la).toArray 24))
 have V2 := Hd (B2.out.alloc (.cells (natsV .u64 la).toArray 24))
 have hbel3 := (BEL.out).alloc (by first | exact (BEL.out).size | (simp; omega)) (.cells (natsV .u64 la).toArray 24)
 skip --B1 B2
 go_enter Try.func29, Try.ntmps29
 go_wp2_with (first | (refine ld24 rfl (.tmp 3) rfl w.heap.size rfl la B1.out LA.out ?_) | (refine bs1 rfl (.tmp 12) rfl la rfl LA.out ?_))
 clear B1 B2
 refine (HPF.out _ _ (by simp)).mono ?_
 rintro e w4 ⟨rfl, hbw4⟩
 have C5 := Hd (V1.out.below' hbw4)
 have C6 := Hd (V2.out.below' hbw4)
 have hbel7 := hbel3.trans (hbw4.mono hbel3.size)
 have Z9 := Hd (Blk.new w4 82 ((primL (zeros 4) 0)))
 have hz10 := Hd (below_setRow' (hbel7.alloc hbel7.size (.cells ((primL (zeros 4) 0)).toArray 82)) hbel7.size ((primL lm f)).toArray)
 have Y11 := Hd ((C5.out.alloc (.cells ((primL (zeros 4) 0)).toArray 82)).row ((primL lm f)).toArray (Nat.ne_of_lt C5.out.lt))
 have Y12 := Hd ((C6.out.alloc (.cells ((primL (zeros 4) 0)).toArray 82)).row ((primL lm f)).toArray (Nat.ne_of_lt C6.out.lt))
 have Y13 := Hd (Z9.out.setRow ((primL lm f)))
 have q := Q.out
 clear V1 V2 hbw4 hbel3
 go_wp2_with (first | (refine st83 rfl (.tmp 6) (.tmp 15) rfl w4.heap.size rfl (primL lm f) rfl LP.out (primL (zeros 4) 0) Z9.out rfl ?_; generalize hW : World.setRow _ _ _ = w8; have D15 := Hd (show Blk w8 w.heap.size 24 (natsV .u64 la) from (by rw [← hW]; exact Y11.out)); have D16 := Hd (show Blk w8 (w.heap.size + 1) 24 (natsV .u64 (zeros 4)) from (by rw [← hW]; exact Y12.out)); have D17 := Hd (show Blk w8 w4.heap.size 82 ((primL lm f)) from (by rw [← hW]; exact Y13.out)); have LE_D17 := (hbel7).size; have NE_D15 := Nat.ne_of_lt C5.out.lt; have NE_D16 := Nat.ne_of_lt C6.out.lt; have hbel18 : Below w.heap.size w w8 := (by rw [← hW]; exact hz10.out); clear hW Z9 hz10 C5 C6 Y11 Y12 Y13 hbel7; generalize w4.heap.size = G14 at *) | (refine ld24 rfl (.tmp 3) rfl w.heap.size rfl la D15.out LA.out ?_) | (refine ldm rfl (.tmp 26) rfl G14 rfl lm _ D17.out LM.out ?_))
 clear q
 refine (HSB.out _).mono ?_
 rintro e w19 ⟨rfl, hbw19⟩
 have C20 := Hd (D15.out.below' hbw19)
 have C21 := Hd (D16.out.below' hbw19)
 have C22 := Hd (D17.out.below' hbw19)
 have hbel23 := hbel18.trans (hbw19.mono hbel18.size)
 have Z25 := Hd (Blk.new w19 24 (natsV .u64 (zeros 4)))
 have hz26 := Hd (below_setRow' (hbel23.alloc hbel23.size (.cells (natsV .u64 (zeros 4)).toArray 24)) hbel23.size (natsV .u64 l2).toArray)
 have Y27 := Hd ((C20.out.alloc (.cells (natsV .u64 (zeros 4)).toArray 24)).row (natsV .u64 l2).toArray (Nat.ne_of_lt C20.out.lt))
 have Y28 := Hd ((C21.out.alloc (.cells (natsV .u64 (zeros 4)).toArray 24)).row (natsV .u64 l2).toArray (Nat.ne_of_lt C21.out.lt))
 have Y29 := Hd ((C22.out.alloc (.cells (natsV .u64 (zeros 4)).toArray 24)).row (natsV .u64 l2).toArray (Nat.ne_of_lt C22.out.lt))
 have Y30 := Hd (Z25.out.setRow (natsV .u64 l2))
 clear D15 D16 D17 hbw19 hbel18
 go_wp2_with (first | (refine st24 rfl (.tmp 8) (.tmp 30) rfl w19.heap.size rfl l2 rfl L2.out (zeros 4) Z25.out rfl ?_; generalize hW : World.setRow _ _ _ = w24; have D32 := Hd (show Blk w24 w.heap.size 24 (natsV .u64 la) from (by rw [← hW]; exact Y27.out)); have D33 := Hd (show Blk w24 (w.heap.size + 1) 24 (natsV .u64 (zeros 4)) from (by rw [← hW]; exact Y28.out)); have D34 := Hd (show Blk w24 G14 82 ((primL lm f)) from (by rw [← hW]; exact Y29.out)); have D35 := Hd (show Blk w24 w19.heap.size 24 (natsV .u64 l2) from (by rw [← hW]; exact Y30.out)); have LE_D35 := (hbel23).size; have NE_D32 := Nat.ne_of_lt C20.out.lt; have NE_D33 := Nat.ne_of_lt C21.out.lt; have NE_D34 := Nat.ne_of_lt C22.out.lt; have hbel36 : Below w.heap.size w w24 := (by rw [← hW]; exact hz26.out); clear hW Z25 hz26 C20 C21 C22 Y27 Y28 Y29 Y30 hbel23; generalize w19.heap.size = G31 at *) | (refine ld83 rfl (.tmp 6) rfl G14 rfl (primL lm f) D34.out LP.out.1 ?_) | (refine ld24 rfl (.tmp 3) rfl w.heap.size rfl la D32.out LA.out ?_) | (refine ld24 rfl (.tmp 8) rfl G31 rfl l2 D35.out L2.out ?_))
 refine (HC.out _).mono ?_
 rintro e w37 ⟨rfl, hbw37⟩
 have C38 := Hd (D32.out.below' hbw37)
 have C39 := Hd (D33.out.below' hbw37)
 have C40 := Hd (D34.out.below' hbw37)
 have C41 := Hd (D35.out.below' hbw37)
 have hbel42 := hbel36.trans (hbw37.mono hbel36.size)
 clear D32 D33 D34 D35 hbw37 hbel36
 go_wp2_with (first | (refine st24 rfl (.tmp 4) (.tmp 35) rfl (w.heap.size + 1) rfl lr rfl LR.out (zeros 4) C39.out rfl ?_))
 refine bodyPost_ret (v := .tuple #[.agg (natsV .u64 lr).toArray, .int .i64 0]) ?_ rfl ⟨rfl, below_setRow' hbel42 (by first | exact Nat.le_refl _ | omega) _⟩
 exact ret24x Try.results29 _ _ (w.heap.size + 1) lr _ rfl rfl (C39.out.setRow _) LR.out
end Go.Proofs.Ytdkkombpkojjaaa
