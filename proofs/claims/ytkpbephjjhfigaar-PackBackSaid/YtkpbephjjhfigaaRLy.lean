/- The document lays numbers in so many bits each, bit by bit. Condition: each is a number of so many bits. -/
import Derived.Test.YtkpbephjjhfigaaRIp
import Derived.Deep.OwnRows
namespace Go.Proofs.YtkpbephjjhfigaaR
open Go.RowKit
set_option linter.unusedVariables false
set_option linter.unusedSimpArgs false
theorem jv_length (l : List Int) : (jv l).length = l.length := by simp [jv]
theorem jv_get (l : List Int) (i : Nat) (h : i < l.length) : (jv l)[i]? = some (.int .i64 (l.getD i 0)) := by
  simp [jv, List.getD_eq_getElem?_getD, List.getElem?_eq_getElem h]
theorem jv_set (l : List Int) (i : Nat) (x : Int) : (jv l).set i (.int .i64 x) = jv (l.set i x) := by simp [jv, List.map_set]
theorem jv_one (l : List Int) : ∀ v ∈ jv l, v.oneCell' = true := by
  intro u hu; obtain ⟨y, _, rfl⟩ := List.mem_map.1 hu; rfl
theorem Blk.jv {w : World} {g : Nat} {t : TypeId} {l : List Int} (h : Blk w g t (Go.Proofs.YtkpbephjjhfigaaR.jv l)) (i : Nat) (hi : i < l.length) : w.cell? ⟨g, i, none⟩ = some (.int .i64 (l.getD i 0)) := by
  rw [h.cell, jv_get l i hi]
theorem Blk.jvSet {w : World} {g : Nat} {t : TypeId} {l : List Int} (h : Blk w g t (Go.Proofs.YtkpbephjjhfigaaR.jv l)) (i : Nat) (x : Int) : Blk (w.setCell ⟨g, i, none⟩ (.int .i64 x)) g t (Go.Proofs.YtkpbephjjhfigaaR.jv (l.set i x)) := by
  have := h.set i (.int .i64 x); rwa [jv_set] at this
theorem info42 : (Try.prog.info? 42).map (·.size) = some 256 := by kernel_rfl
theorem jsize (l : List Int) : (jv l).toArray.size = l.length := by simp [jv]
theorem j42 {l : List Int} (h : l.length = 256) : (Try.prog.info? 42).map (·.size) = some (jv l).toArray.size := by rw [info42, jsize, h]
theorem info5m : (Try.prog.info? 5).map (fun i => (i.zero, i.size, i.bytes)) = some (some (.int .u8 0), 1, 1) := info5
theorem made_bytes (n : Nat) : madeCells #[Value.int .u8 0] n = (natsV .u8 (zeros n)).toArray := by
  apply Array.ext
  · simp [madeCells, natsV, zeros]
  · intro i h1 h2
    simp [madeCells, natsV, zeros, Nat.mod_one]
theorem mk_u8 (n : Nat) (hn : n ≤ 100000) (w : World) : (Instr.makeSlice 25 (.int .i64 (n : Int)) (.int .i64 (n : Int))).run Try.prog w = .ok (.slice (some ⟨w.heap.size, 0, none⟩) n n) (w.alloc (.cells (natsV .u8 (zeros n)).toArray 5)) := by
  rw [← made_bytes]
  exact run_make_row' 25 5 (.int .u8 0) 1 Try.underlying25 info5m rfl .i64 .i64 n (by omega) (by omega) w
/-- numbers as an array of 64-bit ones -/
def natJ (x : Nat → Nat) : List Int := tellI (fun i => ((x i : Nat) : Int)) 256
theorem natJ_len (x : Nat → Nat) : (natJ x).length = 256 := tellI_length _ _
theorem natJ_get (x : Nat → Nat) (i : Nat) (hi : i < 256) : (natJ x).getD i 0 = ((x i : Nat) : Int) := tellI_get _ _ _ hi
theorem bit_add {B X r : Nat} (hr : r < 8) (hB : B < 2 ^ r) : ((B : Int) + (X : Int) % 2 * 2 ^ r) % 256 = ((B + X % 2 * 2 ^ r : Nat) : Int) := by
  have h1 : ∀ r : Nat, r < 8 → 2 ^ r + 2 ^ r ≤ 256 := by decide
  have h2 := h1 r hr
  have h3 : X % 2 * 2 ^ r ≤ 1 * 2 ^ r := Nat.mul_le_mul_right _ (by omega)
  have e : (X : Int) % 2 * 2 ^ r = ((X % 2 * 2 ^ r : Nat) : Int) := by rw [pw_int, Int.natCast_mul]; rfl
  rw [e]; omega
theorem blk_own {w w0 : World} {g n : Nat} {L : List Nat} (h : Blk w g 5 (natsV .u8 L)) (hg : w0.heap.size ≤ g) (hl : L.length = n) (hn : n ≤ 100000) : w.ownsRow w0.heap.size 5 1 (.slice (some ⟨g, 0, none⟩) n n) L.length (bytesV L) := by
  subst hl
  exact ⟨by simp [bytesV], .inr ⟨g, L.length, _, rfl, hg, h, Nat.le_refl _, by unfold maxLen; omega, by simp [natsV], by show List.take (L.length * 1) (natsV .u8 L) = _; rw [List.take_of_length_le (by simp [natsV])]; rfl⟩⟩
set_option maxRecDepth 100000 in
set_option maxHeartbeats 1600000 in
theorem Lay_any (x : Nat → Nat) (s : Nat) (hs1 : 1 ≤ s) (hs2 : s ≤ 23) (hx : ∀ i, i < 256 → x i < 2 ^ s) (w : World) : Calls Try.prog 20 #[.agg (jv (natJ x)).toArray, .int .i64 (s : Nat)] w (Made (layN s x) w) := by
  have HX := Lib.hid hx
  have HG := Lib.hid (fun i hi => natJ_get x i hi)
  have HL := Lib.hid (natJ_len x)
  have B1 := Lib.hid ((Blk.new w 42 (jv (natJ x))).alloc (.cells (natsV .u8 (zeros (32 * s))).toArray 5))
  have B2 := Lib.hid (Blk.new2 w (.cells (jv (natJ x)).toArray 42) 5 (natsV .u8 (zeros (32 * s))))
  have BEL := Lib.hid (((Below.refl w.heap.size w).alloc (Nat.le_refl _) (.cells (jv (natJ x)).toArray 42)).alloc (by simp) (.cells (natsV .u8 (zeros (32 * s))).toArray 5))
  have hmk := fun w => mk_u8 (32 * s) (by omega) w
  generalize natJ x = a at *
  obtain ⟨n, hn⟩ : ∃ n, 32 * s = n := ⟨_, rfl⟩
  rw [hn] at hmk B1 B2 BEL
  have HN := Lib.hid hn
  have hn2 : (32 : Int) * (s : Int) = (n : Int) := by omega
  clear hx hn
  go_enter Try.func20, Try.ntmps20
  go_wp2_with fail
  clear hmk
  go_loopw [6] (fun v6 wr => ∃ t : Nat, t ≤ 256 ∧ v6 = .int .i64 t ∧ Blk wr w.heap.size 42 (jv a) ∧ Blk wr (w.heap.size + 1) 5 (natsV .u8 (bytesN (digs s x t) n)) ∧ Below w.heap.size w wr) (fun v6 _ => 256 - (intOf v6).toNat)
  case atStart => exact ⟨0, by omega, rfl, B1.out, by rw [show digs s x 0 = 0 from rfl, bytesN_zero]; exact B2.out, BEL.out⟩
  case round =>
    clear B1 B2 BEL
    obtain ⟨t, ht, rfl, k1, k2, hbel⟩ := hrel
    have K1 := Lib.hid k1
    have K2 := Lib.hid k2
    clear k1 k2
    by_cases h5 : t < 256
    · have i1 : (t : Int) < 256 := by omega
      have hc := K1.out.jv t (by rw [HL.out]; exact h5)
      rw [HG.out t h5] at hc
      have HBZ := Lib.hid (bitS_zero s x t)
      have HBA := Lib.hid (bitS_all (s := s) (x := x) (i := t) (HX.out t h5))
      have HBL := Lib.hid (fun k => bitS_lt (s := s) (x := x) (i := t) (fun j hj => HX.out j (by omega)) k)
      have HBS := Lib.hid (fun k => bitS_succ s x t k)
      have hxt : x t < 2 ^ 23 := Nat.lt_of_lt_of_le (HX.out t h5) (Nat.pow_le_pow_right (by decide) hs2)
      have hst : s * t + s ≤ s * 256 := by rw [← Nat.mul_succ]; exact Nat.mul_le_mul_left _ h5
      obtain ⟨p, hp⟩ : ∃ p, s * t = p := ⟨_, rfl⟩
      have hp2 : (t : Int) * (s : Int) = (p : Int) := by rw [← hp, Int.natCast_mul, Int.mul_comm]
      rw [hp] at HBL HBS hst
      have hpn : p + s ≤ 8 * n := by have := HN.out; omega
      clear hp hst
      generalize x t = y at *
      go_wp2_with fail
      clear hc
      go_loopw [7, 8] (fun v7 v8 wr => ∃ k : Nat, k ≤ s ∧ v8 = .int .i64 k ∧ v7 = .int .i64 (y / 2 ^ k : Nat) ∧ Blk wr w.heap.size 42 (jv a) ∧ Blk wr (w.heap.size + 1) 5 (natsV .u8 (bytesN (bitS s x t k) n)) ∧ Below w.heap.size w wr) (fun _ v8 _ => s - (intOf v8).toNat)
      case atStart => exact ⟨0, by omega, rfl, by simp, K1.out, by rw [HBZ.out]; exact K2.out, hbel⟩
      case round =>
        clear K1 K2 hbel
        obtain ⟨k, hk, rfl, rfl, k1, k2, hbel⟩ := hrel
        have K1 := Lib.hid k1
        have K2 := Lib.hid k2
        clear k1 k2
        by_cases h8 : k < s
        · have i2 : (k : Int) < (s : Int) := by omega
          have hpk : p + k < 8 * n := by omega
          have hq : (p + k) / 8 < n := by omega
          have hcb := K2.out.nat ((p + k) / 8) (by rw [bytesN_length]; exact hq)
          rw [bytesN_get hq] at hcb
          have hfr := K2.out.free ((p + k) / 8)
          have HSET := Lib.hid (bytesN_set (n := n) (HBL.out k) (show y / 2 ^ k % 2 < 2 by omega))
          rw [HBS.out k] at HSET
          have hsm := byt_small (HBL.out k)
          have HH := Lib.hid (half_pow y k)
          generalize bitS s x t k = M at *
          have hyk : y / 2 ^ k < 2 ^ 23 := Nat.lt_of_le_of_lt (Nat.div_le_self _ _) hxt
          have hba := bit_add (X := y / 2 ^ k) (Nat.mod_lt _ (by decide) : (p + k) % 8 < 8) hsm
          generalize byt M ((p + k) / 8) = B at *
          generalize y / 2 ^ k = X at *
          generalize B + X % 2 * 2 ^ ((p + k) % 8) = C at *
          clear hsm
          go_wp2_with fail
          have k1 := K1.out.other ⟨w.heap.size + 1, (p + k) / 8, none⟩ (.int .u8 (C : Nat)) (by simp)
          have k2 := K2.out.natSet ((p + k) / 8) C
          rw [HSET.out] at k2
          have hb2 := hbel.setCell (p := ⟨w.heap.size + 1, (p + k) / 8, none⟩) (by simp) (.int .u8 (C : Nat))
          go_roundw
          case rel => exact ⟨k + 1, by omega, by go_num, by rw [← HH.out]; go_num, k1, k2, hb2⟩
          case measure => simp [intOf]; omega
        · obtain rfl : k = s := by omega
          rw [HBA.out] at K2
          go_wp2_with fail
          go_roundw
          case rel => exact ⟨t + 1, by omega, by go_num, K1.out, K2.out, hbel⟩
          case measure => simp [intOf]; omega
    · obtain rfl : t = 256 := by omega
      obtain rfl : n = 32 * s := HN.out.symm
      go_wp2_with fail
      go_ret
      exact ⟨_, rfl, blk_own (L := layN s x) K2.out (by omega) (layN_length s x) (by omega), hbel⟩
end Go.Proofs.YtkpbephjjhfigaaR
