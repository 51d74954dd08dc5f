/- The document's product: sums of places, carries, words. No condition but 256 bits. -/
import Derived.Test.YtfffmoolkgheaaaWp1
import Derived.Test.YtfffmoolkgheaaaNm
import Derived.Test.YtfffmoolkgheaaaA
import Derived.Test.YtfffmoolkgheaaaG0
import Derived.Test.YtfffmoolkgheaaaRb
namespace Go.Proofs.Ytfffmoolkgheaaa
open Go.RowKit
set_option linter.unusedVariables false
set_option linter.unusedSimpArgs false
theorem mk76 (w : World) : (Instr.makeSlice 76 (.int .i64 32) (.int .i64 32)).run Try.prog w = .ok (.slice (some ⟨w.heap.size, 0, none⟩) 32 32) (w.alloc (.cells (natsV .u64 (zeros 32)).toArray 22)) := by kernel_rfl
theorem mk74 (w : World) : (Instr.makeSlice 74 (.int .i64 32) (.int .i64 32)).run Try.prog w = .ok (.slice (some ⟨w.heap.size, 0, none⟩) 32 32) (w.alloc (.cells (natsV .u32 (zeros 32)).toArray 77)) := by kernel_rfl
set_option maxRecDepth 100000 in
set_option maxHeartbeats 3200000 in
theorem refMul_any (a b : Nat) (w : World) (ha : a < 2 ^ 256) (hb : b < 2 ^ 256) : Calls Try.prog 14 #[.agg (natsV .u64 (wds 4 a)).toArray, .agg (natsV .u64 (wds 4 b)).toArray] w fun e w' => e = .returned (.agg (natsV .u64 (wds 8 (a * b))).toArray) ∧ Below w.heap.size w w' := by
  have HDA := Lib.hid (fun w => Digits_any a w)
  have HDB := Lib.hid (fun w => Digits_any b w)
  have L_la := Lib.hid (wds_len 4 a)
  have L_lb := Lib.hid (wds_len 4 b)
  have L_lp := Lib.hid (wds_len 8 (a * b))
  have HSV := Lib.hid (show val (2 ^ 16) (tell (acc a b 256) 32) = a * b from Vt_all a b ha hb)
  have HW0 := Lib.hid (show tell (dgt (2 ^ 64) (a * b)) 8 = wds 8 (a * b) from rfl)
  have HST := Lib.hid (fun t (ht : t < 256) => acc_step a b t ht)
  have HSL := Lib.hid (fun t j => acc_le a b t j)
  have HS0 := Lib.hid (acc_zero a b)
  generalize wds 4 a = la at *
  generalize wds 4 b = lb at *
  generalize wds 8 (a * b) = lp at *
  clear ha hb
  have B0_ := Lib.hid (((Blk.new w  24 (natsV .u64 la)).alloc (.cells (natsV .u64 lb).toArray 24)).alloc (.cells (natsV .u64 (zeros 8)).toArray 26))
  have B1_ := Lib.hid ((Blk.new2 w (.cells (natsV .u64 la).toArray 24) 24 (natsV .u64 lb)).alloc (.cells (natsV .u64 (zeros 8)).toArray 26))
  have B2_ := Lib.hid (Blk.new3 w (.cells (natsV .u64 la).toArray 24) (.cells (natsV .u64 lb).toArray 24) 26 (natsV .u64 (zeros 8)))
  have bel_ := ((((Below.refl w.heap.size w).alloc (Nat.le_refl _) (.cells (natsV .u64 la).toArray 24)).alloc (by simp) (.cells (natsV .u64 lb).toArray 24)).alloc (by simp; omega) (.cells (natsV .u64 (zeros 8)).toArray 26))
  go_enter Try.func14, Try.ntmps14
  go_wp2_with (first | (refine wpList_load_mid rfl 24 (.tmp 2) rfl w.heap.size 0 rfl (natsV .u64 la) _ (blk_all (B0_.out)) Try.underlying24 rfl (i24 L_la.out) ?_))
  refine (HDA.out _).mono ?_
  rintro e w1 hm
  obtain ⟨gx, cgx, rfl, hgx, hcgx, _, hrgx, hbgx⟩ := made16 hm (by decide)
  have C2 := Lib.hid (B0_.out.gr hbgx)
  clear B0_
  have C3 := Lib.hid (B1_.out.gr hbgx)
  clear B1_
  have C4 := Lib.hid (B2_.out.gr hbgx)
  clear B2_
  have hbel5 := bel_.trans (Below.mono hbgx bel_.size)
  clear bel_
  have RX := Lib.hid hrgx
  have szx := hbgx.size
  go_wp2_with (first | (refine wpList_load_mid rfl 24 (.tmp 3) rfl (w.heap.size + 1) 0 rfl (natsV .u64 lb) _ (blk_all (C3.out)) Try.underlying24 rfl (i24 L_lb.out) ?_))
  refine (HDB.out _).mono ?_
  rintro e w6 hm
  obtain ⟨gy, cgy, rfl, hgy, hcgy, _, hrgy, hbgy⟩ := made16 hm (by decide)
  have C7 := Lib.hid (C2.out.gr hbgy)
  clear C2
  have C8 := Lib.hid (C3.out.gr hbgy)
  clear C3
  have C9 := Lib.hid (C4.out.gr hbgy)
  clear C4
  have hbel10 := hbel5.trans (Below.mono hbgy hbel5.size)
  clear hbel5
  have RX2 := Lib.hid (RX.out.below hbgy)
  have RY := Lib.hid hrgy
  have hltx := World.block_lt_of_cell? _ _ (RX2.out 0 (by decide))
  have hlty := World.block_lt_of_cell? _ _ (RY.out 0 (by decide))
  have hltr := C9.out.lt
  clear hm hrgy
  have hmk := mk76
  go_upto_region 4 with (fail)
  have D7 := Lib.hid (Blk.new w6 22 (natsV .u64 (zeros 32)))
  have hgm := Gr.alloc w6 (.cells (natsV .u64 (zeros 32)).toArray 22)
  have C11 := Lib.hid (C7.out.gr hgm)
  clear C7
  have C12 := Lib.hid (C8.out.gr hgm)
  clear C8
  have C13 := Lib.hid (C9.out.gr hgm)
  clear C9
  have hbel14 := hbel10.trans (Below.mono hgm hbel10.size)
  clear hbel10
  have RX3 := Lib.hid (RX2.out.below hgm)
  have RY3 := Lib.hid (RY.out.below hgm)
  clear hgm RX2 RY RX hmk hbgx hbgy hrgx
  generalize w6.alloc (.cells (natsV .u64 (zeros 32)).toArray 22) = wA at *
  generalize w6.heap.size = G7 at *
  have nX : gx ≠ G7 := Nat.ne_of_lt hltx
  have nY : gy ≠ G7 := Nat.ne_of_lt hlty
  have nR : w.heap.size + 1 + 1 ≠ G7 := Nat.ne_of_lt hltr
  have gG : w.heap.size ≤ G7 := by have h : w.heap.size + 1 + 1 < G7 := hltr; omega
  clear hltx hlty hltr
  have K4 := C13
  clear C11 C12 C13
  go_wp2_with fail
  go_loopw [8] (fun i wr => ∃ t : Nat, t ≤ 16 ∧ i = .int .i64 t ∧ Rd16 wr gx 16 a ∧ Rd16 wr gy 16 b ∧ Blk wr (w.heap.size + 1 + 1) 26 (natsV .u64 (zeros 8)) ∧ Blk wr G7 22 (natsV .u64 (tell (acc a b (16 * t)) 32)) ∧ Below w.heap.size w wr) (fun i _ => 16 - (intOf i).toNat)
  case atStart => exact ⟨0, by omega, rfl, RX3.out, RY3.out, K4.out, by rw [show 16 * 0 = 0 from rfl, HS0.out]; exact D7.out, hbel14⟩
  case round =>
    clear RX3 RY3 K4 D7 hbel14 HS0
    obtain ⟨t, ht, rfl, rx, ry, k4, k7, hbel⟩ := hrel
    have RX := Lib.hid rx
    have RY := Lib.hid ry
    have K4 := Lib.hid k4
    have K7 := Lib.hid k7
    clear rx ry k4 k7
    by_cases h5 : t < 16
    · as_aux_lemma =>
      have hti : (t : Int) < 16 := by omega
      go_wp2_with fail
      go_loopw [9] (fun k wr => ∃ u : Nat, u ≤ 16 ∧ k = .int .i64 u ∧ Rd16 wr gx 16 a ∧ Rd16 wr gy 16 b ∧ Blk wr (w.heap.size + 1 + 1) 26 (natsV .u64 (zeros 8)) ∧ Blk wr G7 22 (natsV .u64 (tell (acc a b (16 * t + u)) 32)) ∧ Below w.heap.size w wr) (fun k _ => 16 - (intOf k).toNat)
      case atStart => exact ⟨0, by omega, rfl, RX.out, RY.out, K4.out, by rw [Nat.add_zero]; exact K7.out, hbel⟩
      case round =>
        clear RX RY K4 K7 hbel
        obtain ⟨u, hu, rfl, rx, ry, k4, k7, hbel⟩ := hrel
        have RX := Lib.hid rx
        have RY := Lib.hid ry
        have K4 := Lib.hid k4
        have K7 := Lib.hid k7
        by_cases h6 : u < 16
        · as_aux_lemma =>
          have hui : (u : Int) < 16 := by omega
          have c1 := rx t h5
          have c2 := ry u h6
          clear rx ry k4 k7
          have hs := HST.out (16 * t + u) (by omega)
          have hle := HSL.out (16 * t + u) (t + u)
          rw [show (16 * t + u) / 16 = t by omega, show (16 * t + u) % 16 = u by omega] at hs
          unfold prT at hs
          rw [show (16 * t + u) / 16 = t by omega, show (16 * t + u) % 16 = u by omega] at hs
          have hx := dgt_lt (B := 2 ^ 16) (by decide) a t
          have hy := dgt_lt (B := 2 ^ 16) (by decide) b u
          obtain ⟨x, hxx⟩ : ∃ x, x = dgt (2 ^ 16) a t := ⟨_, rfl⟩
          obtain ⟨y, hyy⟩ : ∃ y, y = dgt (2 ^ 16) b u := ⟨_, rfl⟩
          rw [← hxx, ← hyy] at hs
          rw [← hxx] at hx c1
          rw [← hyy] at hy c2
          have hxy : x * y ≤ 4294967296 := by
            have := Nat.mul_le_mul (Nat.le_of_lt hx) (Nat.le_of_lt hy)
            exact this
          obtain ⟨p, hp⟩ : ∃ p, p = x * y := ⟨_, rfl⟩
          rw [← hp] at hs hxy
          obtain ⟨n, hn⟩ : ∃ n, n = t + u := ⟨_, rfl⟩
          rw [← hn] at hs hle
          have hn32 : n < 32 := by omega
          have c3 := K7.out.nat n (by rw [tell_length]; exact hn32)
          have f3 := K7.out.free n
          rw [tell_getD _ _ _ hn32] at c3
          obtain ⟨v, hv⟩ : ∃ v, v = acc a b (16 * t + u) n := ⟨_, rfl⟩
          rw [← hv] at hs hle c3
          obtain ⟨q, hq⟩ : ∃ q, q = v + p := ⟨_, rfl⟩
          rw [← hq] at hs
          have hq64 : v ≤ 2199023255552 := by omega
          have e1 : IntKind.i64.wrap ((t : Int) + (u : Int)) = (n : Int) := by rw [IntWalk.i64_in _ (by omega)]; omega
          have e2 : (t : Int) + (u : Int) = (n : Int) := by omega
          have hni : (n : Int) < 32 := by omega
          have r1 : IntKind.u64.wrap (x : Int) = (x : Int) := by rw [u64_cut, Nat.mod_eq_of_lt (by omega)]
          have r2 : IntKind.u64.wrap (y : Int) = (y : Int) := by rw [u64_cut, Nat.mod_eq_of_lt (by omega)]
          have r3 : IntKind.u64.wrap ((x : Int) * (y : Int)) = (p : Int) := by rw [hp, ← Int.natCast_mul, u64_cut, Nat.mod_eq_of_lt (by omega)]
          have r4 : IntKind.u64.wrap ((v : Int) + (p : Int)) = (q : Int) := by rw [hq, ← Int.natCast_add, u64_cut, Nat.mod_eq_of_lt (by omega)]
          have HS := Lib.hid hs
          clear hs hxx hyy hp hn hv hq hle hx hy hxy hq64
          go_wp2_with fail
          go_region
          all_goals
            clear r1 r2 r3 r4 c1 c2 c3 f3 e1 e2
            have n1 := RX.out.set ⟨G7, n, none⟩ (.int .u64 (q : Nat)) nX
            have n2 := RY.out.set ⟨G7, n, none⟩ (.int .u64 (q : Nat)) nY
            have n3 := K4.out.other ⟨G7, n, none⟩ (.int .u64 (q : Nat)) nR
            have n4 := K7.out.natSet n q
            rw [HS.out] at n4
            have hb2 := (hbel.setCell (p := ⟨G7, n, none⟩) gG (.int .u64 (q : Nat))).drew
            have N1 := Lib.hid (n1.below (Below.drew (Below.refl _ _)))
            have N2 := Lib.hid (n2.below (Below.drew (Below.refl _ _)))
            have N3 := Lib.hid n3.drew
            have N4 := Lib.hid n4.drew
            clear n1 n2 n3 n4 RX RY K4 K7 hbel
            go_wp2_with fail
            go_roundw
            case rel => exact ⟨u + 1, by omega, by go_num, N1.out, N2.out, N3.out, N4.out, hb2⟩
            case measure => simp [intOf] <;> omega
        · as_aux_lemma =>
          obtain rfl : u = 16 := by omega
          rw [show ((16 : Nat) : Int) = 16 from rfl]
          clear rx ry k4 k7
          go_wp2_with fail
          go_roundw
          case rel => exact ⟨t + 1, by omega, by go_num, RX.out, RY.out, K4.out, by rw [show 16 * (t + 1) = 16 * t + 16 by omega]; exact K7.out, hbel⟩
          case measure => simp [intOf] <;> omega
    · as_aux_lemma =>
      obtain rfl : t = 16 := by omega
      rw [show ((16 : Nat) : Int) = 16 from rfl]
      rw [show 16 * 16 = 256 from rfl] at K7
      clear RX RY HST
      have hS := fun j => HSL.out 256 j
      have HCY := Lib.hid (fun i => cyS_lt (acc a b 256) (fun j => HSL.out 256 j) i)
      have HSB := Lib.hid hS
      have HDG := Lib.hid (fun i (hi : i < 32) => carry_dgt (acc a b 256) (a * b) HSV.out i hi)
      clear hS HSL HSV
      generalize acc a b 256 = S at *
      generalize a * b = X at *
      have hmk := mk74
      have hltr := K4.out.lt
      have hlt7 := K7.out.lt
      go_upto_region 12 with (fail)
      have D10 := Lib.hid (Blk.new wr 77 (natsV .u32 (zeros 32)))
      have hgm := Gr.alloc wr (.cells (natsV .u32 (zeros 32)).toArray 77)
      have K4b := Lib.hid (K4.out.gr hgm)
      have K7b := Lib.hid (K7.out.gr hgm)
      have hbel2 := hbel.trans (Below.mono hgm hbel.size)
      have gG2 := hbel.size
      clear hgm hmk K4 K7 hbel
      generalize wr.alloc (.cells (natsV .u32 (zeros 32)).toArray 77) = wB at *
      generalize wr.heap.size = G10 at *
      have nR2 : w.heap.size + 1 + 1 ≠ G10 := Nat.ne_of_lt hltr
      have n72 : G7 ≠ G10 := Nat.ne_of_lt hlt7
      clear hltr hlt7
      go_wp2_with fail
      go_loopw [11, 12] (fun c i wr => ∃ t : Nat, t ≤ 32 ∧ i = .int .i64 t ∧ c = .int .u64 (cyS S t : Nat) ∧ Blk wr (w.heap.size + 1 + 1) 26 (natsV .u64 (zeros 8)) ∧ Blk wr G7 22 (natsV .u64 (tell S 32)) ∧ Blk wr G10 77 (natsV .u32 (tell (dgt (2 ^ 16) X) t ++ zeros (32 - t))) ∧ Below w.heap.size w wr) (fun _ i _ => 32 - (intOf i).toNat)
      case atStart => exact ⟨0, by omega, rfl, rfl, K4b.out, K7b.out, D10.out, hbel2⟩
      case round =>
        clear K4b K7b D10 hbel2
        obtain ⟨t, ht, rfl, rfl, k4, k7, k10, hbel⟩ := hrel
        have K4 := Lib.hid k4
        have K7 := Lib.hid k7
        have K10 := Lib.hid k10
        clear k4 k7 k10
        by_cases h5 : t < 32
        · as_aux_lemma =>
          have hti : (t : Int) < 32 := by omega
          have c1 := K7.out.nat t (by rw [tell_length]; exact h5)
          rw [tell_getD _ _ _ h5] at c1
          have hsl := HSB.out t
          have hcl := HCY.out t
          have hdg := HDG.out t h5
          have hdl := dgt_lt (B := 2 ^ 16) (by decide) X t
          have hsucc : cyS S (t + 1) = (S t + cyS S t) / 65536 := rfl
          obtain ⟨c, hc⟩ : ∃ c, c = cyS S t := ⟨_, rfl⟩
          obtain ⟨x, hx⟩ : ∃ x, x = S t := ⟨_, rfl⟩
          obtain ⟨d, hd⟩ : ∃ d, d = dgt (2 ^ 16) X t := ⟨_, rfl⟩
          rw [← hc, ← hx] at hsucc hdg
          rw [← hc] at hcl ⊢
          rw [← hx] at hsl c1
          rw [← hd] at hdg hdl
          obtain ⟨v, hv⟩ : ∃ v, v = x + c := ⟨_, rfl⟩
          rw [← hv] at hsucc hdg
          obtain ⟨k, hk⟩ : ∃ k, k = v / 65536 := ⟨_, rfl⟩
          rw [← hk] at hsucc
          have hdg2 : v % 65536 = d := hdg
          have r1 : IntKind.u64.wrap ((x : Int) + (c : Int)) = (v : Int) := by rw [hv, ← Int.natCast_add, u64_cut, Nat.mod_eq_of_lt (by omega)]
          have r2 : (v : Int) % 65536 = (d : Int) := by omega
          have r3 : IntKind.u32.wrap (d : Int) = (d : Int) := by rw [IntKind.wrap_u32]; omega
          have r4 : (v : Int) / 65536 = (k : Int) := by omega
          have r5 : IntKind.u64.wrap (k : Int) = (k : Int) := by rw [u64_cut, Nat.mod_eq_of_lt (by omega)]
          have c2 := K10.out.nat t (by simp [tell_length, zeros]; omega)
          have f2 := K10.out.free t
          have J := K10.out.natSet t d
          rw [hd, fill_tell (dgt (2 ^ 16) X) 32 t h5, ← hd] at J
          have n1 := Lib.hid (K4.out.other ⟨G10, t, none⟩ (.int .u32 (d : Nat)) nR2)
          have n2 := Lib.hid (K7.out.other ⟨G10, t, none⟩ (.int .u32 (d : Nat)) n72)
          have n3 := Lib.hid J
          have hb2 := hbel.setCell (p := ⟨G10, t, none⟩) gG2 (.int .u32 (d : Nat))
          have HSU := Lib.hid hsucc
          clear J K4 K7 K10 hbel hsucc hdg hdg2 hc hx hd hv hk hsl hcl hdl
          go_wp2_with fail
          go_roundw
          case rel => exact ⟨t + 1, by omega, by go_num, by rw [HSU.out], n1.out, n2.out, n3.out, hb2⟩
          case measure => simp [intOf] <;> omega
        · as_aux_lemma =>
          obtain rfl : t = 32 := by omega
          rw [show ((32 : Nat) : Int) = 32 from rfl]
          have RD : Rd16 wr G10 32 X := fun i hi => by
            have h := K10.out.nat i (by simp [tell_length, zeros]; omega)
            rw [Nat.sub_self, show zeros 0 = [] from rfl, List.append_nil, tell_getD _ _ _ hi] at h
            exact h
          have hlt10 := K10.out.lt
          have hltr := K4.out.lt
          clear HSB HCY HDG K7 K10
          go_upto_region 20 with (fail)
          have D14 := Lib.hid (Blk.new wr 26 (natsV .u64 (zeros 8)))
          have hgm := Gr.alloc wr (.cells (natsV .u64 (zeros 8)).toArray 26)
          have K4b := Lib.hid (K4.out.gr hgm)
          have RDb := Lib.hid (RD.below hgm)
          have hbel2 := hbel.trans (Below.mono hgm hbel.size)
          have gG3 := hbel.size
          clear hgm K4 RD hbel
          change Code.wp _ _ _ _ (wr.alloc (.cells (natsV .u64 (zeros 8)).toArray 26))
          generalize wr.alloc (.cells (natsV .u64 (zeros 8)).toArray 26) = wC at *
          generalize wr.heap.size = G14 at *
          have nR3 : w.heap.size + 1 + 1 ≠ G14 := Nat.ne_of_lt hltr
          have n104 : G10 ≠ G14 := Nat.ne_of_lt hlt10
          clear hltr hlt10
          go_wp2_with fail
          go_loopw [15] (fun i wr => ∃ t : Nat, t ≤ 8 ∧ i = .int .i64 t ∧ Blk wr (w.heap.size + 1 + 1) 26 (natsV .u64 (zeros 8)) ∧ Rd16 wr G10 32 X ∧ Blk wr G14 26 (natsV .u64 (tell (dgt (2 ^ 64) X) t ++ zeros (8 - t))) ∧ Below w.heap.size w wr) (fun i _ => 8 - (intOf i).toNat)
          case atStart => exact ⟨0, by omega, rfl, K4b.out, RDb.out, D14.out, hbel2⟩
          case round =>
            clear K4b RDb D14 hbel2
            obtain ⟨t, ht, rfl, k4, rd, k14, hbel⟩ := hrel
            have K4 := Lib.hid k4
            have RD := Lib.hid rd
            have K14 := Lib.hid k14
            clear k4 rd k14
            by_cases h5 : t < 8
            · as_aux_lemma =>
              have hti : (t : Int) < 8 := by omega
              have HWD := Lib.hid (word_any X 32 32 G10 t wr RD.out (by omega) (by omega))
              have J := K14.out.natSet t (dgt (2 ^ 64) X t)
              rw [fill_tell (dgt (2 ^ 64) X) 8 t h5] at J
              have c2 := K14.out.nat t (by simp [tell_length, zeros]; omega)
              have f2 := K14.out.free t
              obtain ⟨d, hd⟩ : ∃ d, d = dgt (2 ^ 64) X t := ⟨_, rfl⟩
              rw [← hd] at J HWD
              clear hd
              have n1 := Lib.hid (K4.out.other ⟨G14, t, none⟩ (.int .u64 (d : Nat)) nR3)
              have n2 := Lib.hid (RD.out.set ⟨G14, t, none⟩ (.int .u64 (d : Nat)) n104)
              have n3 := Lib.hid J
              have hb2 := hbel.setCell (p := ⟨G14, t, none⟩) gG3 (.int .u64 (d : Nat))
              clear J K4 RD K14 hbel
              go_wp2_with fail
              refine HWD.out.mono ?_
              rintro e w' ⟨rfl, rfl⟩
              go_wp2_with fail
              go_roundw
              case rel => exact ⟨t + 1, by omega, by go_num, n1.out, n2.out, n3.out, hb2⟩
              case measure => simp [intOf] <;> omega
            · as_aux_lemma =>
              obtain rfl : t = 8 := by omega
              rw [show ((8 : Nat) : Int) = 8 from rfl]
              rw [Nat.sub_self, show zeros 0 = [] from rfl, List.append_nil, HW0.out] at K14
              have j2 := K4.out.setRow (natsV .u64 lp)
              have hb2 := below_setRow' hbel (show w.heap.size ≤ w.heap.size + 1 + 1 by omega) (natsV .u64 lp).toArray
              go_wp2_with (first | (refine ld26 rfl (.tmp 14) rfl G14 rfl lp K14.out L_lp.out ?_) | (refine st26 rfl (.tmp 4) (.tmp 80) rfl (w.heap.size + 1 + 1) rfl lp rfl L_lp.out (zeros 8) K4.out rfl ?_))
              refine bodyPost_ret (v := .agg (natsV .u64 lp).toArray) ?_ rfl ⟨rfl, hb2⟩
              exact results_cell_row Try.results14 _ _ (w.heap.size + 1 + 1) 26 _ (0, 0) _ rfl j2 Try.underlying26 rfl (by rw [info26, size_nats, L_lp.out])
end Go.Proofs.Ytfffmoolkgheaaa
