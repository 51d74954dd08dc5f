/- The document's digits of words, and the words of digits. No condition but that no more than eight words are asked. -/
import Derived.Test.YtfffmoolkgheaaaA
namespace Go.Proofs.Ytfffmoolkgheaaa
open Go.RowKit
set_option linter.unusedVariables false
set_option linter.unusedSimpArgs false
theorem info77 : (Try.prog.info? 77).map (fun i => (i.zero, i.size, i.bytes)) = some (some (.int .u32 0), 1, 4) := by kernel_rfl
theorem dgt_mod (B v i m : Nat) (h : i < m) : dgt B (v % B ^ m) i = dgt B v i := by
  unfold dgt
  obtain ⟨d, rfl⟩ : ∃ d, m = i + 1 + d := ⟨m - (i + 1), by omega⟩
  have e : B ^ (i + 1 + d) = B ^ i * (B * B ^ d) := by rw [Nat.pow_add, Nat.pow_succ, Nat.mul_assoc]
  rw [e, Nat.mod_mul_right_div_self, Nat.mod_mul_right_mod]
theorem dgt_div (B v i j : Nat) : dgt B (v / B ^ j) i = dgt B v (j + i) := by
  unfold dgt; rw [Nat.div_div_eq_div_mul, ← Nat.pow_add]
/-- a word's digits to the base 2^16 are the number's -/
theorem dgt_word (V i k : Nat) (hk : k < 4) : dgt (2 ^ 16) (dgt (2 ^ 64) V i) k = dgt (2 ^ 16) V (4 * i + k) := by
  have e : dgt (2 ^ 64) V i = V / (2 ^ 16) ^ (4 * i) % (2 ^ 16) ^ 4 := by
    unfold dgt; rw [← Nat.pow_mul, ← Nat.pow_mul, ← Nat.pow_mul, show 64 * i = 16 * (4 * i) by omega]
  rw [e, dgt_mod _ _ _ _ hk, dgt_div]
theorem nats_snoc (k : IntKind) (l : List Nat) (z : Nat) : natsV k l ++ [.int k (z : Nat)] = natsV k (l ++ [z]) := by simp [natsV]
/-- what a call answers that makes a list of words of 32 bits -/
def Made32 (l : List Nat) (w : World) (e : Ending) (w' : World) : Prop := ∃ v, e = .returned v ∧ w'.ownsRow w.heap.size 77 1 v l.length (natsV .u32 l) ∧ Below w.heap.size w w'
/-- words of 64 bits that a slice leads to -/
def Rd (w : World) (g n V : Nat) : Prop := ∀ i, i < n → w.cell? ⟨g, i, none⟩ = some (.int .u64 (dgt (2 ^ 64) V i : Nat))
theorem Rd.below {w w' : World} {g n V : Nat} (h : Rd w g n V) (hb : Below w.heap.size w w') : Rd w' g n V := fun i hi => (hb.cell (World.block_lt_of_cell? w _ (h i hi))).trans (h i hi)
theorem Rd.blk {w : World} {g t n V : Nat} (h : Blk w g t (natsV .u64 (wds n V))) : Rd w g n V := fun i hi => by
  have := h.nat i (by rw [wds_len]; exact hi)
  rw [wds_at _ _ _ hi] at this; exact this
set_option maxRecDepth 100000 in
set_option maxHeartbeats 1000000 in
theorem digits_any (V n c g : Nat) (w : World) (hn : n ≤ 8) (hr : Rd w g n V) :
    Calls Try.prog 54 #[.slice (some ⟨g, 0, none⟩) n c] w (Made32 (tell (dgt (2 ^ 16) V) (4 * n)) w) := by
  obtain ⟨i0, hi, hz0, hz1, hz2⟩ := info_parts info77
  have HR := Lib.hid hr
  clear hr
  go_enter Try.func54, Try.ntmps54
  go_wp2_with fail
  go_loopw [3, 4] (fun v i wr => ∃ t : Nat, t ≤ n ∧ i = .int .i64 t ∧ wr.ownsRow w.heap.size 77 1 v (4 * t) (natsV .u32 (tell (dgt (2 ^ 16) V) (4 * t))) ∧ Below w.heap.size w wr) (fun _ i _ => n - (intOf i).toNat)
  case atStart => exact ⟨0, by omega, rfl, World.ownsRow_nil _ _ _ _, Below.refl _ _⟩
  case round =>
    obtain ⟨t, ht, rfl, hown, hbel⟩ := hrel
    by_cases htn : t < n
    · as_aux_lemma =>
      have hti : (t : Int) < (n : Int) := by omega
      have c0 : wr.cell? ⟨g, t, none⟩ = some (.int .u64 (dgt (2 ^ 64) V t : Nat)) := (hbel.cell (World.block_lt_of_cell? w _ (HR.out t htn))).trans (HR.out t htn)
      have HX := dgt_lt (B := 2 ^ 64) (by decide) V t
      have HD := Lib.hid (fun k (hk : k < 4) => dgt_word V t k hk)
      generalize dgt (2 ^ 64) V t = x at *
      have HOWN := Lib.hid hown
      clear hown
      obtain ⟨W1, hW1⟩ : ∃ W1 : World, W1 = wr := ⟨_, rfl⟩
      rw [← hW1] at hbel HOWN c0 ⊢
      clear hW1
      go_wp2_with fail
      clear c0
      go_loopw [3, 5, 6] (fun v y k wr => ∃ s : Nat, s ≤ 4 ∧ k = .int .i64 s ∧ y = .int .u64 (x / (2 ^ 16) ^ s : Nat) ∧ wr.ownsRow w.heap.size 77 1 v (4 * t + s) (natsV .u32 (tell (dgt (2 ^ 16) V) (4 * t + s))) ∧ Below w.heap.size w wr) (fun _ _ k _ => 4 - (intOf k).toNat)
      case atStart => exact ⟨0, by omega, rfl, by simp, HOWN.out, hbel⟩
      case round =>
        clear HOWN hbel
        obtain ⟨s, hs, rfl, rfl, hown, hbel⟩ := hrel
        have HY : x / (2 ^ 16) ^ s < 18446744073709551616 := Nat.lt_of_le_of_lt (Nat.div_le_self _ _) HX
        have HN := Lib.hid (show x / (2 ^ 16) ^ s / 65536 = x / (2 ^ 16) ^ (s + 1) by rw [Nat.pow_succ (2 ^ 16), Nat.div_div_eq_div_mul])
        have HDS := Lib.hid (fun hk : s < 4 => show x / (2 ^ 16) ^ s % 65536 = dgt (2 ^ 16) V (4 * t + s) from HD.out s hk)
        generalize x / (2 ^ 16) ^ s = y at *
        by_cases hs4 : s < 4
        · have hsi : (s : Int) < 4 := by omega
          go_wp2_with (at_builtin; refine wpList_append_own _ rfl (.tmp 21) (.tmp 25) 74 rfl w.heap.size 77 i0 (.int .u32 0) 1 4 Try.underlying74 hi hz0 hz1 hz2 rfl (by decide) _ (4 * t + s) _ rfl (hown.alloc _) ⟨wr.heap.size, 0, none⟩ 1 1 [_] rfl rfl (one_new _ _ _) (by simp [Value.oneCell']) (by unfold maxLen; omega) (by omega) (by have := hbel.size; simp; omega) ?_)
          intro v2 w2 hown2 hgrow2 _
          have hbel2 : Below w.heap.size w w2 := (hbel.alloc hbel.size _).grown hgrow2 (by have := hbel.size; simp; omega) (fun j hj => (hown.lt j hj).1)
          have hv : (y : Int) % 65536 = ((dgt (2 ^ 16) V (4 * t + s) : Nat) : Int) := by rw [← HDS.out hs4]; omega
          have hown3 : w2.ownsRow w.heap.size 77 1 v2 (4 * t + (s + 1)) (natsV .u32 (tell (dgt (2 ^ 16) V) (4 * t + (s + 1)))) := by
            rw [← Nat.add_assoc, tell_succ, ← nats_snoc, ← hv]
            exact hown2
          clear hown hgrow2 hown2 hv
          go_wp2_with fail
          go_roundw
          case rel => exact ⟨s + 1, by omega, by go_num, by rw [← HN.out]; go_num, hown3, hbel2⟩
          case measure => simp [intOf] <;> omega
        · obtain rfl : s = 4 := by omega
          rw [show ((4 : Nat) : Int) = 4 from rfl]
          have hown3 : wr.ownsRow w.heap.size 77 1 u3 (4 * (t + 1)) (natsV .u32 (tell (dgt (2 ^ 16) V) (4 * (t + 1)))) := hown
          clear hown
          go_wp2_with fail
          go_roundw
          case rel => exact ⟨t + 1, by omega, by go_num, hown3, hbel⟩
          case measure => simp [intOf] <;> omega
    · obtain rfl : t = n := by omega
      go_wp2_with fail
      go_ret
      exact ⟨_, rfl, by rw [tell_length]; exact hown, hbel⟩
end Go.Proofs.Ytfffmoolkgheaaa
