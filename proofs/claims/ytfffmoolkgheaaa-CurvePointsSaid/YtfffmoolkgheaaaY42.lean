/- Parts of proofs of statements, each text behind those that it stands on. No condition of its own. -/
import Derived.Test.YtfffmoolkgheaaaY39
import Derived.Test.YtfffmoolkgheaaaY40
namespace Go.Proofs.Ytfffmoolkgheaaa
open Go.RowKit
set_option linter.unusedVariables false
set_option linter.unusedSimpArgs false
theorem neg_zero_ : (0 + mP - 0) % mP = 0 := by rw [Nat.zero_add, Nat.sub_zero, Nat.mod_self]
theorem neg_g {n : Nat} [NeZero n] (y : Fin n) : 0 - y = -y := by grobner
theorem neg_val (y : FP) : (0 + mP - y.val) % mP = (-y : FP).val := by
  rw [← neg_g, sub_val, zero_val]
theorem k_neg {P : EC.Pt mP} (hP : EC.On bP P) : Ans 28 #[ptV P] (.tuple #[ptV (EC.neg P), .int .i64 0]) := fun w => by
  rw [ptV_eq P, ptV_eq (EC.neg P)]
  cases P with
  | inf =>
    exact neg_ok rfl rfl rfl (fun w => k_onP (P := .inf) trivial w) (fun w => by
      have h := Sub_ok 1 mP 1 vP 0 0 w fld_P (by decide) (by decide) (pok_2 1 mP 1 vP 0 0 .p (by decide) (by decide))
      rw [neg_zero_, num_zero] at h
      exact h) w
  | aff x y =>
    exact neg_ok (nw_len x) (nw_len y) (nw_len (-y)) (fun w => k_onP hP w) (fun w => by
      have h := Sub_ok 1 mP 1 vP 0 y.val w fld_P (by decide) y.isLt (pok_2 1 mP 1 vP 0 y.val .p (by decide) y.isLt)
      rw [neg_val, num_zero] at h
      exact h) w
end Go.Proofs.Ytfffmoolkgheaaa
namespace Go.Proofs.Ytfffmoolkgheaaa
open Go.RowKit
set_option linter.unusedVariables false
theorem neq43 (a b c d : List Nat) (i j : Bool) (ha : a.length = 4) (hb : b.length = 4) (hc : c.length = 4) (hd : d.length = 4) (w : World) :
    (binOp .neq 43 (.agg (pv a b i).toArray) (.agg (pv c d j).toArray)).run Try.prog w = .ok (.bool (!decide (a = c ∧ b = d ∧ i = j))) w := by
  have e1 : (pv a b i).toArray.extract 0 (0 + 4) = (natsV .u64 a).toArray := by obtain ⟨_, _, _, _, rfl⟩ := four_ol ha; obtain ⟨_, _, _, _, rfl⟩ := four_ol hb; rfl
  have e2 : (pv c d j).toArray.extract 0 (0 + 4) = (natsV .u64 c).toArray := by obtain ⟨_, _, _, _, rfl⟩ := four_ol hc; obtain ⟨_, _, _, _, rfl⟩ := four_ol hd; rfl
  have e3 : (pv a b i).toArray.extract 4 (4 + 4) = (natsV .u64 b).toArray := by obtain ⟨_, _, _, _, rfl⟩ := four_ol ha; obtain ⟨_, _, _, _, rfl⟩ := four_ol hb; rfl
  have e4 : (pv c d j).toArray.extract 4 (4 + 4) = (natsV .u64 d).toArray := by obtain ⟨_, _, _, _, rfl⟩ := four_ol hc; obtain ⟨_, _, _, _, rfl⟩ := four_ol hd; rfl
  have e5 : (pv a b i).toArray[8]? = some (.bool i) := by obtain ⟨_, _, _, _, rfl⟩ := four_ol ha; obtain ⟨_, _, _, _, rfl⟩ := four_ol hb; rfl
  have e6 : (pv c d j).toArray[8]? = some (.bool j) := by obtain ⟨_, _, _, _, rfl⟩ := four_ol hc; obtain ⟨_, _, _, _, rfl⟩ := four_ol hd; rfl
  have hf : (Try.prog.fieldsOf 43).toList = [{ name := "X", type := 24, offset := 0, embedded := false, tag := "", pkgPath := "", byteOffset := 0 }, { name := "Y", type := 24, offset := 4, embedded := false, tag := "", pkgPath := "", byteOffset := 32 }, { name := "Inf", type := 4, offset := 8, embedded := false, tag := "", pkgPath := "", byteOffset := 64 }] := by kernel_rfl
  rw [run_neq_struct, run_equalIn_struct w 9999 43 _ _ (by kernel_rfl) (by kernel_rfl), hf]
  generalize pv a b i = X at *
  generalize pv c d j = Y at *
  simp only [Op.eqFields, Sem.run_bind, Sem.run_ite, part24, e1, e2, e3, e4, Result.andThen_ok, eqin24 9997 a c ha hc, eqin24 9997 b d hb hd, part4 _ 8 _ e5, part4 _ 8 _ e6, run_equalIn_bool _ 9998 4 i j Try.underlying4]
  by_cases h1 : a = c <;> by_cases h2 : b = d <;> cases i <;> cases j <;> simp [h1, h2]
theorem BIn.gr {w w' : World} {a : Option Addr} {n c : Nat} {l : List Nat} (h : BIn w a n c l) (hb : Gr w w') : BIn w' a n c l := h.below hb
theorem BIn.drew {w : World} {a : Option Addr} {n c : Nat} {l : List Nat} (h : BIn w a n c l) : BIn w.drew a n c l := h.below (Gr.drew w)
theorem own_bin {w : World} {base n G cap : Nat} {l : List Nat} (h : w.ownsRow base 5 1 (.slice (some ⟨G, 0, none⟩) n cap) n (bytesV l)) (hl : ∀ x ∈ l, x < 256) (hn : n ≤ 140737488355328) : BIn w (some ⟨G, 0, none⟩) n cap l := by
  obtain ⟨a', c', he, hb⟩ := own_in h hl hn
  simp only [Value.slice.injEq] at he
  obtain ⟨rfl, _, rfl⟩ := he
  exact hb.1
theorem lstA_lt (x y : Nat) : ∀ z ∈ [4] ++ bytesOf_ x ++ bytesOf_ y, z < 256 := by
  intro z hz
  simp only [List.mem_append, List.mem_singleton] at hz
  rcases hz with (rfl | h) | h
  · decide
  · exact bytesOf_lt x z h
  · exact bytesOf_lt y z h
theorem lstB_lt (x d : Nat) (hd : d < 2) : ∀ z ∈ [2 + d] ++ bytesOf_ x, z < 256 := by
  intro z hz
  simp only [List.mem_append, List.mem_singleton] at hz
  rcases hz with rfl | h
  · omega
  · exact bytesOf_lt x z h
theorem drop33 (a : Nat) (l m : List Nat) (h : l.length = 32) : (([a] ++ l ++ m).drop 33) = m := by
  rw [List.drop_append_of_le_length (by simp [h])]
  rw [List.drop_of_length_le (by simp [h])]; rfl
theorem part1 (a : Nat) (l m : List Nat) (h : l.length = 32) : (([a] ++ l ++ m).drop 1).take 32 = l := by
  show (l ++ m).take 32 = l
  rw [← h, List.take_left]
theorem decA_enc (x y : Nat) (hx : x < 2 ^ 256) (hy : y < 2 ^ 256) (h : onB x y false = true) : decA 65 ([4] ++ bytesOf_ x ++ bytesOf_ y) = (wds 4 x, wds 4 y, 0) := by
  unfold decA
  rw [part1 4 _ _ (bytesOf_len x), drop33 4 _ _ (bytesOf_len x), List.take_of_length_le (by rw [bytesOf_len]; omega), be_bytesOf x hx, be_bytesOf y hy]
  unfold decB
  rw [if_pos ⟨rfl, rfl⟩, if_pos h]
theorem root_of {x y : FP} (h : y * y = rsF x) : OkR (rsF x).val ∧ (y = fv (rN (rsF x).val) ∨ y = -(fv (rN (rsF x).val))) := by
  have e : (rsF x).val = y.val * y.val % mP := by rw [← h, Fin.val_mul]
  have ho : OkR (rsF x).val := by rw [e]; exact okR_sq y.val y.isLt
  refine ⟨ho, ?_⟩
  have h1 := rN_sq _ ho
  have hz : fv (rN (rsF x).val) * fv (rN (rsF x).val) = rsF x := by
    apply Fin.ext
    rw [Fin.val_mul, fv_small (rN_lt _)]; exact h1
  rcases EC.two_of okP (x := x) (y := fv (rN (rsF x).val)) (z := y) (by rw [hz]; rfl) (by rw [h]; rfl) with k | k
  · exact .inl k.symm
  · exact .inr (EC.neg_of k)
theorem decA_pck (x y : Nat) (hx : x < 2 ^ 256) (hy : y < 2 ^ 256) (h : onB x y false = true) : decA 33 ([2 + y % 2] ++ bytesOf_ x) = (wds 4 x, wds 4 y, 0) := by
  unfold onB at h
  rw [if_neg (by decide)] at h
  simp only [Bool.and_eq_true, decide_eq_true_eq] at h
  obtain ⟨h1, h2, h3⟩ := h
  obtain ⟨ho, hr⟩ := root_of h3
  have ey : wds 4 y = nw (fv y) := by unfold nw; rw [fv_small h2]
  have hlt := rN_lt (rsF (fv x)).val
  have hev := rN_even (rsF (fv x)).val
  have hne := root_ne (fv x) ho
  have hodd := neg_odd hlt hne hev
  have e1 : (([2 + y % 2] ++ bytesOf_ x).drop 1).take 32 = bytesOf_ x := by
    show (bytesOf_ x).take 32 = _
    rw [List.take_of_length_le (by rw [bytesOf_len]; omega)]
  unfold decA
  rw [e1, be_bytesOf x hx]
  have e2 : ([2 + y % 2] ++ bytesOf_ x).getD 0 0 = 2 + y % 2 := rfl
  rw [e2]
  unfold decB
  rw [if_neg (fun k => absurd k.1 (by decide)), if_pos ⟨rfl, by omega⟩, if_pos ⟨h1, ho⟩, ey]
  have hyv : (fv y).val = y := fv_small h2
  rcases hr with hr | hr
  · have : y % 2 = 0 := by
      have hv := congrArg Fin.val hr
      rw [hyv, fv_small hlt] at hv
      omega
    rw [if_neg (by omega), hr]
  · have : y % 2 = 1 := by
      have hv := congrArg Fin.val hr
      rw [hyv] at hv
      omega
    rw [if_pos (by omega), hr]
end Go.Proofs.Ytfffmoolkgheaaa
namespace Go.Proofs.Ytfffmoolkgheaaa
open Go.RowKit
set_option linter.unusedVariables false
set_option maxHeartbeats 400000 in
theorem same_eq (a b : Option Addr) (n c d : Nat) (l : List Nat) (w : World) (ha : ByteRow w a n l) (hb : ByteRow w b n l) :
    Calls Try.prog 33 #[.slice a n c, .slice b n d] w fun e w' => e = .returned (.bool true) ∧ Below w.heap.size w w' := by
  obtain ⟨hl, hm, hlt, hra⟩ := ha
  obtain ⟨_, _, _, hrb⟩ := hb
  unfold maxLen at hm
  have HA := Lib.hid hra
  have HB := Lib.hid hrb
  clear hra hrb
  go_enter Try.func33, Try.ntmps33
  go_wp2
  go_loopw [5] (fun i wr => ∃ k : Nat, k ≤ n ∧ i = .int .i64 k ∧ Below w.heap.size w wr) (fun i _ => n - (intOf i).toNat)
  case atStart => exact ⟨0, Nat.zero_le _, rfl, Below.refl _ _⟩
  case round =>
    obtain ⟨k, hk, rfl, hbel⟩ := hrel
    by_cases hkn : k < n
    · obtain ⟨b1, o1, rfl, hc1⟩ := HA.out.resolve_left (by omega)
      obtain ⟨b2, o2, rfl, hc2⟩ := HB.out.resolve_left (by omega)
      have g1 := hc1 k hkn
      have g2 := hc2 k hkn
      have e1 : wr.cell? ⟨b1, o1 + k, none⟩ = some (.int .u8 (l.getD k 0 : Nat)) := (hbel.cell (World.block_lt_of_cell? w _ g1)).trans g1
      have e2 : wr.cell? ⟨b2, o2 + k, none⟩ = some (.int .u8 (l.getD k 0 : Nat)) := (hbel.cell (World.block_lt_of_cell? w _ g2)).trans g2
      clear hc1 hc2 g1 g2
      generalize l.getD k 0 = x at *
      have hki : (k : Int) < (n : Int) := by omega
      go_wp2_with fail
      go_quiet (fail)
      have hbel2 : Below w.heap.size w (wr.drewN nq) := ⟨hbel.os, hbel.tape, hbel.output, hbel.size, hbel.block⟩
      go_wp2
      go_roundw
      case rel => exact ⟨k + 1, by omega, by go_num, hbel2⟩
      case measure => simp [intOf]; omega
    · go_wp2
      go_ret
      exact ⟨rfl, hbel⟩
end Go.Proofs.Ytfffmoolkgheaaa
