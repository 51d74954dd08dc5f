/- The project takes words apart into halves and puts halves together. No condition but that they are there. -/
import Derived.Test.YtfffmoolkgheaaaA
import Derived.Test.YtfffmoolkgheaaaMa
import Derived.Test.YtfffmoolkgheaaaDg
import Derived.Test.YtfffmoolkgheaaaNt
namespace Go.Proofs.Ytfffmoolkgheaaa
open Go.RowKit
set_option linter.unusedVariables false
set_option linter.unusedSimpArgs false
theorem half_lo (X i : Nat) : dgt (2 ^ 64) X i % 4294967296 = dgt (2 ^ 32) X (2 * i) := by
  unfold dgt
  rw [show (2 : Nat) ^ 64 = 4294967296 * 4294967296 by decide, Nat.mod_mul_right_mod, show (2 : Nat) ^ 32 = 4294967296 by decide, Nat.pow_mul]
theorem half_hi (X i : Nat) : dgt (2 ^ 64) X i / 4294967296 = dgt (2 ^ 32) X (2 * i + 1) := by
  unfold dgt
  rw [show (2 : Nat) ^ 64 = 4294967296 * 4294967296 by decide, Nat.mod_mul_right_div_self, Nat.div_div_eq_div_mul, show (2 : Nat) ^ 32 = 4294967296 by decide, Nat.pow_succ, Nat.pow_mul]
theorem half_of (X i : Nat) : dgt (2 ^ 32) X (2 * i + 1) * 4294967296 + dgt (2 ^ 32) X (2 * i) = dgt (2 ^ 64) X i := by
  rw [← half_lo, ← half_hi]; omega
theorem u32_lo (x p : Nat) (h : p = x % 4294967296) : IntKind.u32.wrap (x : Int) = (p : Int) := by rw [IntKind.wrap_u32]; omega
theorem u32_in (x : Nat) (h : x < 4294967296) : IntKind.u32.wrap (x : Int) = (x : Int) := by rw [IntKind.wrap_u32]; omega
theorem u64_in (x : Nat) (h : x < 2 ^ 64) : IntKind.u64.wrap (x : Int) = (x : Int) := by rw [IntKind.wrap_u64]; omega
set_option maxRecDepth 100000 in
set_option maxHeartbeats 800000 in
theorem split_any (T n g g2 X : Nat) (w : World) (hn : n ≤ 8) (hg : Blk w g T (natsV .u32 (zeros (2 * n)))) (hne : g2 ≠ g) (hlt : g2 < w.heap.size)
    (hc : ∀ i, i < n → w.cell? ⟨g2, i, none⟩ = some (.int .u64 (dgt (2 ^ 64) X i : Nat))) :
    Calls Try.prog 126 #[.slice (some ⟨g, 0, none⟩) (2 * n) (2 * n), .slice (some ⟨g2, 0, none⟩) n n] w fun e w' => e = .returned (.tuple #[]) ∧ Blk w' g T (natsV .u32 (tell (dgt (2 ^ 32) X) (2 * n))) ∧ w.grownBy w' (some g) := by
  have HG := Lib.hid hg
  have HC := Lib.hid hc
  clear hg hc
  go_enter Try.func126, Try.ntmps126
  go_wp2_with fail
  go_loopw [8] (fun i wr => ∃ t : Nat, t ≤ n ∧ i = .int .i64 t ∧ Blk wr g T (natsV .u32 (tell (dgt (2 ^ 32) X) (2 * t) ++ zeros (2 * n - 2 * t))) ∧ w.grownBy wr (some g)) (fun i _ => n - (intOf i).toNat)
  case atStart => exact ⟨0, by omega, rfl, HG.out, grown_refl _ _⟩
  case round =>
    clear HG
    obtain ⟨t, ht, rfl, k, hb⟩ := hrel
    have K := Lib.hid k
    clear k
    by_cases hs : t < n
    · as_aux_lemma =>
      have hti : (t : Int) < (n : Int) := by omega
      have c0 := (World.cell?_of_block (a := ⟨g2, t, none⟩) (hb.block g2 hlt (by simp; omega))).trans (HC.out t hs)
      have hx := dgt_lt (B := 2 ^ 64) (by decide) X t
      have hlo := half_lo X t
      have hhi := half_hi X t
      have hset : ((tell (dgt (2 ^ 32) X) (2 * t) ++ zeros (2 * n - 2 * t)).set (2 * t) (dgt (2 ^ 32) X (2 * t))).set (2 * t + 1) (dgt (2 ^ 32) X (2 * t + 1)) = tell (dgt (2 ^ 32) X) (2 * (t + 1)) ++ zeros (2 * n - 2 * (t + 1)) := by
        rw [fill_tell _ (2 * n) (2 * t) (by omega), fill_tell _ (2 * n) (2 * t + 1) (by omega)]
        rfl
      have hlen : (tell (dgt (2 ^ 32) X) (2 * t) ++ zeros (2 * n - 2 * t)).length = 2 * n := by simp [tell_length, zeros]; omega
      have e1 := u32_lo (dgt (2 ^ 64) X t) _ hlo.symm
      have e2 : (dgt (2 ^ 64) X t : Int) / 4294967296 = ((dgt (2 ^ 32) X (2 * t + 1) : Nat) : Int) := by rw [← hhi]; rfl
      have hh := dgt_lt (B := 2 ^ 32) (by decide) X (2 * t + 1)
      have e3 := u32_in (dgt (2 ^ 32) X (2 * t + 1)) hh
      have HSET := Lib.hid hset
      clear hset hlo hhi hx hh
      generalize dgt (2 ^ 32) X (2 * t + 1) = hi at *
      generalize dgt (2 ^ 32) X (2 * t) = lo at *
      generalize dgt (2 ^ 64) X t = x at *
      obtain ⟨p, hp⟩ : ∃ p, p = 2 * t := ⟨_, rfl⟩
      rw [← hp] at HSET K hlen
      obtain ⟨q, hq⟩ : ∃ q, q = p + 1 := ⟨_, rfl⟩
      rw [← hq] at HSET
      generalize tell (dgt (2 ^ 32) X) p ++ zeros (2 * n - p) = lc at *
      have i1 : 2 * (t : Int) = (p : Int) := by omega
      have i2 : (p : Int) + 1 = (q : Int) := by omega
      have hp0 : (p : Int) < 2 * (n : Int) := by omega
      have hq0 : (q : Int) < 2 * (n : Int) := by omega
      have hpi : (p : Nat) < 2 * n := by omega
      have hqi : (q : Nat) < 2 * n := by omega
      have hpb : (0:Int) ≤ (p : Int) := by omega
      have d0 := K.out.nat p (by rw [hlen]; exact hpi)
      have f0 := K.out.free p
      have k1 := Lib.hid (K.out.natSet p lo)
      have d1 := k1.out.nat q (by rw [List.length_set, hlen]; exact hqi)
      have f1 := k1.out.free q
      have k2 := Lib.hid (k1.out.natSet q hi)
      rw [HSET.out] at k2
      have hb2 := grown_trans (grown_trans hb (grown_setCell _ ⟨g, p, none⟩ (.int .u32 (lo : Nat)))) (grown_setCell _ ⟨g, q, none⟩ (.int .u32 (hi : Nat)))
      have hr1 : t ≤ 8 := by omega
      have hr2 : p ≤ 16 := by omega
      clear hp hq HSET
      go_wp2_with fail
      go_roundw
      case rel => exact ⟨t + 1, by omega, by go_num, k2.out, hb2⟩
      case measure => simp [intOf] <;> omega
    · obtain rfl : t = n := by omega
      have hti : ¬ ((t : Int) < (t : Int)) := by omega
      have hz : tell (dgt (2 ^ 32) X) (2 * t) ++ zeros (2 * t - 2 * t) = tell (dgt (2 ^ 32) X) (2 * t) := by simp [zeros]
      rw [hz] at K
      go_wp2_with fail
      refine ⟨rfl, .tuple #[], ?_, rfl, K.out, hb⟩
      first | rfl | simp [results, Try.results126] | (simp [results, Try.results126]; rfl)
set_option maxRecDepth 100000 in
set_option maxHeartbeats 800000 in
theorem join_any' (o g V c : Nat) (w : World) (ho : o ≤ 8) (hc8 : 8 ≤ c) (hlt : g < w.heap.size) (hc : ∀ i, i < 8 → w.cell? ⟨g, o + i, none⟩ = some (.int .u32 (dgt (2 ^ 32) V i : Nat))) :
    Calls Try.prog 127 #[.slice (some ⟨g, o, none⟩) 8 c] w fun e w' => e = .returned (.agg (natsV .u64 (wds 4 V)).toArray) ∧ Below w.heap.size w w' := by
  have HC := Lib.hid hc
  have LW := Lib.hid (wds_len 4 V)
  have HLV := Lib.hid (show tell (dgt (2 ^ 64) V) 4 ++ zeros (4 - 4) = wds 4 V by simp [zeros, wds])
  generalize wds 4 V = lv at *
  clear hc
  have B1 := Lib.hid ((Blk.new w 24 (natsV .u64 (zeros 4))).alloc (.cells (natsV .u64 (zeros 4)).toArray 24))
  have B2 := Lib.hid (Blk.new2 w (.cells (natsV .u64 (zeros 4)).toArray 24) 24 (natsV .u64 (zeros 4)))
  have BEL := Lib.hid (((Below.refl w.heap.size w).alloc (Nat.le_refl _) (.cells (natsV .u64 (zeros 4)).toArray 24)).alloc (by simp) (.cells (natsV .u64 (zeros 4)).toArray 24))
  go_enter Try.func127, Try.ntmps127
  go_wp2_with fail
  go_loopw [5] (fun i wr => ∃ t : Nat, t ≤ 4 ∧ i = .int .i64 t ∧ Blk wr w.heap.size 24 (natsV .u64 (zeros 4)) ∧ Blk wr (w.heap.size + 1) 24 (natsV .u64 (tell (dgt (2 ^ 64) V) t ++ zeros (4 - t))) ∧ Below w.heap.size w wr) (fun i _ => 4 - (intOf i).toNat)
  case atStart => exact ⟨0, by omega, rfl, B1.out, B2.out, BEL.out⟩
  case round =>
    clear B1 B2 BEL
    obtain ⟨t, ht, rfl, k1, k2, hbel⟩ := hrel
    have K1 := Lib.hid k1
    have K2 := Lib.hid k2
    clear k1 k2
    by_cases hs : t < 4
    · as_aux_lemma =>
      have hti : (t : Int) < 4 := by omega
      have c0 := (hbel.cell (p := ⟨g, o + 2 * t, none⟩) hlt).trans (HC.out (2 * t) (by omega))
      have c1 := (hbel.cell (p := ⟨g, o + (2 * t + 1), none⟩) hlt).trans (HC.out (2 * t + 1) (by omega))
      have h0 := dgt_lt (B := 2 ^ 32) (by decide) V (2 * t)
      have h1 := dgt_lt (B := 2 ^ 32) (by decide) V (2 * t + 1)
      have hof := half_of V t
      have hset := fill_tell (dgt (2 ^ 64) V) 4 t hs
      have hlen : (tell (dgt (2 ^ 64) V) t ++ zeros (4 - t)).length = 4 := by simp [tell_length, zeros]; omega
      have HSET := Lib.hid hset
      clear hset
      generalize dgt (2 ^ 32) V (2 * t) = lo at *
      generalize dgt (2 ^ 32) V (2 * t + 1) = hi at *
      generalize dgt (2 ^ 64) V t = x at *
      generalize tell (dgt (2 ^ 64) V) t ++ zeros (4 - t) = lc at *
      obtain ⟨p, hp⟩ : ∃ p, p = 2 * t := ⟨_, rfl⟩
      obtain ⟨q, hq⟩ : ∃ q, q = p + 1 := ⟨_, rfl⟩
      rw [← hp] at c0 c1
      rw [← hq] at c1
      have i1 : 2 * (t : Int) = (p : Int) := by omega
      have i2 : (p : Int) + 1 = (q : Int) := by omega
      have hp8 : (p : Int) < 8 := by omega
      have hq8 : (q : Int) < 8 := by omega
      obtain ⟨tw, htw⟩ : ∃ t, t = 4294967296 * hi := ⟨_, rfl⟩
      have e0 := u64_in lo (by omega)
      have e1 := u64_in hi (by omega)
      have etw : IntKind.u64.wrap ((hi : Int) * 4294967296) = (tw : Int) := by rw [IntKind.wrap_u64]; omega
      have eor := w_or hi lo tw x htw h1 h0 (by omega)
      have d0 := K2.out.nat t (by rw [hlen]; exact hs)
      have f0 := K2.out.free t
      have n2 := Lib.hid (K2.out.natSet t x)
      rw [HSET.out] at n2
      have n1 := Lib.hid (K1.out.other ⟨w.heap.size + 1, t, none⟩ (.int .u64 (x : Nat)) (by simp))
      have hb2 := hbel.setCell (p := ⟨w.heap.size + 1, t, none⟩) (by simp) (.int .u64 (x : Nat))
      clear hp hq htw HSET
      go_wp2_with fail
      go_region
      go_wp2_with fail
      go_roundw
      case rel => exact ⟨t + 1, by omega, by go_num, n1.out, n2.out, hb2.drew⟩
      case measure => simp [intOf] <;> omega
    · obtain rfl : t = 4 := by omega
      rw [show ((4 : Nat) : Int) = 4 from rfl]
      rw [HLV.out] at K2
      have j1 := K1.out.setRow (natsV .u64 lv)
      have hb2 := below_setRow' hbel (Nat.le_refl _) (natsV .u64 lv).toArray
      go_wp2_with (first | (refine ld24 rfl (.tmp 3) rfl (w.heap.size + 1) rfl lv K2.out LW.out ?_) | (refine st24 rfl (.tmp 2) (.tmp 26) rfl w.heap.size rfl lv rfl LW.out (zeros 4) K1.out rfl ?_))
      refine bodyPost_ret (v := .agg (natsV .u64 lv).toArray) ?_ rfl ⟨rfl, hb2⟩
      exact ret24 Try.results127 _ _ w.heap.size lv rfl j1 LW.out
end Go.Proofs.Ytfffmoolkgheaaa
