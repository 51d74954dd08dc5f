/- The document adds and subtracts. Condition: 256 bits at the most. -/
import Derived.Test.YtfffmoolkgheaaaNm
import Derived.Test.YtfffmoolkgheaaaD
namespace Go.Proofs.Ytfffmoolkgheaaa
open Go.RowKit
set_option linter.unusedVariables false
set_option linter.unusedSimpArgs false
theorem pow16 : (2 ^ 16) ^ 16 = 2 ^ 256 := by rw [← Nat.pow_mul]
theorem rd16_own {w : World} {B n g c V : Nat} (h : w.ownsRow B 77 1 (.slice (some ⟨g, 0, none⟩) n c) n (natsV .u32 (tell (dgt (2 ^ 16) V) n))) : Rd16 w g n V := fun i hi => by
  have := h.cellAt i (by omega)
  rw [this, natsV_get _ _ _ (by rw [tell_length]; exact hi), tell_getD _ _ _ hi]
theorem Rd16.set {w : World} {g n V : Nat} (h : Rd16 w g n V) (a : Addr) (v : Value) (hne : g ≠ a.block) : Rd16 (w.setCell a v) g n V := fun i hi => by
  rw [World.cell?_setCell_other w a ⟨g, i, none⟩ v (fun e => hne (by rw [e]))]; exact h i hi
theorem Rd16.lt {w : World} {g n V : Nat} (h : Rd16 w g n V) (hn : 0 < n) : g < w.heap.size := World.block_lt_of_cell? w _ (h 0 hn)
set_option maxRecDepth 100000 in
set_option maxHeartbeats 1600000 in
theorem refAdd_any (a b : Nat) (w : World) (ha : a < 2 ^ 256) (hb : b < 2 ^ 256) :
    Calls Try.prog 96 #[.agg (natsV .u64 (wds 4 a)).toArray, .agg (natsV .u64 (wds 4 b)).toArray] w fun e w' => e = .returned (.tuple #[.agg (natsV .u64 (wds 4 (a + b))).toArray, .int .i64 (addC a b : Nat)]) ∧ Below w.heap.size w w' := by
  obtain ⟨V, hV⟩ : ∃ V, V = a + b := ⟨_, rfl⟩
  rw [← hV]
  have HV := Lib.hid hV
  clear hV
  have C0 := Lib.hid (cyA_zero (2 ^ 16) a b 0)
  have CLE := Lib.hid (fun t => cyA_le (B := 2 ^ 16) (by decide) a b 0 t (by omega))
  have HDG := Lib.hid (fun t (_ : t < 16) => show dgt (2 ^ 16) V t = (dgt (2 ^ 16) a t + dgt (2 ^ 16) b t + cyA (2 ^ 16) a b 0 t) % 2 ^ 16 from HV.out ▸ dgt_sum (B := 2 ^ 16) (by decide) a b 0 t)
  have HCS := Lib.hid (fun t (_ : t < 16) => cyA_succ (B := 2 ^ 16) (by decide) a b 0 t)
  have HACL := Lib.hid (show addC a b ≤ 1 by unfold addC; omega)
  have CF := Lib.hid (show cyA (2 ^ 16) a b 0 16 = addC a b from by rw [cyA_top (by rw [pow16]; exact ha) (by rw [pow16]; exact hb), pow16]; rfl)
  have LS := Lib.hid (wds_len 4 V)
  have LA := Lib.hid (wds_len 4 a)
  have LB := Lib.hid (wds_len 4 b)
  have DA := Lib.hid (fun w => Digits_any a w)
  have DB := Lib.hid (fun w => Digits_any b w)
  have HN := Lib.hid (fun (w : World) (g c : Nat) (h : Rd16 w g 16 V) => Num_any V 16 c g w h (by omega) (by omega))
  have T0 := Lib.hid (tell_length (dgt (2 ^ 16) a) 16)
  have T1 := Lib.hid (tell_length (dgt (2 ^ 16) V) 16)
  have G0 := Lib.hid (fun i hi => tell_getD (dgt (2 ^ 16) a) 16 i hi)
  have G1 := Lib.hid (fun i hi => tell_getD (dgt (2 ^ 16) V) 16 i hi)
  have RO := Lib.hid (fun (w : World) (B g c : Nat) (h : w.ownsRow B 77 1 (.slice (some ⟨g, 0, none⟩) 16 c) 16 (natsV .u32 (tell (dgt (2 ^ 16) V) 16))) => rd16_own h)
  have MD := Lib.hid (fun (w w' : World) (e : Ending) (h : Made32 (tell (dgt (2 ^ 16) a) 16) w e w') => made16 h (by decide))
  generalize wds 4 V = ls at *
  generalize wds 4 a = la at *
  generalize wds 4 b = lb at *
  generalize tell (dgt (2 ^ 16) a) 16 = xa at *
  generalize tell (dgt (2 ^ 16) V) 16 = xs at *
  have B1 := Lib.hid (((Blk.new w 24 (natsV .u64 la)).alloc (.cells (natsV .u64 lb).toArray 24)).alloc (.cells (natsV .u64 (zeros 4)).toArray 24))
  have B2 := Lib.hid ((Blk.new2 w (.cells (natsV .u64 la).toArray 24) 24 (natsV .u64 lb)).alloc (.cells (natsV .u64 (zeros 4)).toArray 24))
  have B3 := Lib.hid (Blk.new3 w (.cells (natsV .u64 la).toArray 24) (.cells (natsV .u64 lb).toArray 24) 24 (natsV .u64 (zeros 4)))
  have BEL := Lib.hid ((((Below.refl w.heap.size w).alloc (Nat.le_refl _) (.cells (natsV .u64 la).toArray 24)).alloc (by simp) (.cells (natsV .u64 lb).toArray 24)).alloc (by simp; omega) (.cells (natsV .u64 (zeros 4)).toArray 24))
  go_enter Try.func96, Try.ntmps96
  go_wp2_with (first | (refine ld24 rfl (.tmp 2) rfl w.heap.size rfl la B1.out LA.out ?_))
  refine (DA.out _).mono ?_
  rintro e w1 hm
  obtain ⟨gx, cx, rfl, hgx, hcx, hown0, _, hb1⟩ := MD.out _ _ _ hm
  have C2 := Lib.hid (B2.out.below' hb1)
  have C3 := Lib.hid (B3.out.below' hb1)
  have hbel1 := BEL.out.trans (hb1.mono BEL.out.size)
  have OX := Lib.hid (own_low hown0 (show w.heap.size + 1 + 1 + 1 ≤ _ by simp))
  have hgx2 : w.heap.size + 1 + 1 < gx := by simp at hgx; omega
  clear B1 B2 B3 BEL hb1 hm hgx hown0 MD DA
  go_wp2_with (first | (refine ld24 rfl (.tmp 3) rfl (w.heap.size + 1) rfl lb C2.out LB.out ?_))
  refine (DB.out _).mono ?_
  rintro e w2 hm
  obtain ⟨gy, cy0, rfl, hgy, hcy, _, hrd, hb2⟩ := made16 hm (by decide)
  have D3 := Lib.hid (C3.out.below' hb2)
  have hbel2 := hbel1.trans (hb2.mono hbel1.size)
  have OX2 := Lib.hid (own_below OX.out hb2)
  have RY := Lib.hid hrd
  have hgxy : gx < gy := Nat.lt_of_lt_of_le (OX.out.lt gx rfl).2 hgy
  clear C2 C3 hbel1 hb2 hm OX hrd DB hgy
  go_wp2_with fail
  go_loopw [8, 9] (fun cc i wr => ∃ t : Nat, t ≤ 16 ∧ i = .int .i64 t ∧ cc = .int .u32 (cyA (2 ^ 16) a b 0 t : Nat) ∧ wr.ownsRow (w.heap.size + 1 + 1 + 1) 77 1 (.slice (some ⟨gx, 0, none⟩) 16 cx) 16 (natsV .u32 (xs.take t ++ xa.drop t)) ∧ Rd16 wr gy 16 b ∧ Blk wr (w.heap.size + 1 + 1) 24 (natsV .u64 (zeros 4)) ∧ Below w.heap.size w wr) (fun _ i _ => 16 - (intOf i).toNat)
  case atStart => exact ⟨0, by omega, rfl, by rw [C0.out]; rfl, by simpa using OX2.out, RY.out, D3.out, hbel2⟩
  case round =>
    clear OX2 RY D3 hbel2
    obtain ⟨t, ht, rfl, rfl, hown, hrd, k3, hbel⟩ := hrel
    by_cases h5 : t < 16
    · as_aux_lemma =>
      have hti : (t : Int) < 16 := by omega
      have hti2 : (t : Int) < ((16 : Nat) : Int) := by omega
      have c0 := (hown.cellAt t (by omega)).trans (natsV_get .u32 _ t (by rw [mix_len xs xa t 16 T1.out T0.out ht]; exact h5))
      have hf := hown.frozenAt t
      rw [mix_get xs xa t 16 T1.out T0.out h5, G0.out t h5] at c0
      have c1 := hrd t h5
      have HSET := Lib.hid (mix_set xs xa t 16 T1.out T0.out h5)
      rw [G1.out t h5] at HSET
      have OX := Lib.hid hown
      have RY := Lib.hid hrd
      have K3 := Lib.hid k3
      clear hown hrd k3
      have HXD := dgt_lt (B := 2 ^ 16) (by decide) a t
      have HYD := dgt_lt (B := 2 ^ 16) (by decide) b t
      have CL := CLE.out t
      have HD := Lib.hid (HDG.out t h5)
      have HCY := Lib.hid (HCS.out t h5)
      generalize dgt (2 ^ 16) V t = sv at *
      generalize dgt (2 ^ 16) a t = x at *
      generalize dgt (2 ^ 16) b t = y at *
      generalize cyA (2 ^ 16) a b 0 t = cy at *
      have r1 : IntKind.u32.wrap ((x : Int) + (y : Int)) = ((x + y : Nat) : Int) := by rw [IntKind.wrap_u32']; omega
      have r1' : ((x : Int) + (y : Int)) % 4294967296 = ((x + y : Nat) : Int) := by omega
      obtain ⟨S1, hS1⟩ : ∃ S1, S1 = x + y := ⟨_, rfl⟩
      rw [← hS1] at r1 r1'
      have r2 : IntKind.u32.wrap ((S1 : Int) + (cy : Int)) = ((S1 + cy : Nat) : Int) := by rw [IntKind.wrap_u32']; omega
      have r2' : ((S1 : Int) + (cy : Int)) % 4294967296 = ((S1 + cy : Nat) : Int) := by omega
      obtain ⟨S2, hS2⟩ : ∃ S2, S2 = S1 + cy := ⟨_, rfl⟩
      rw [← hS2] at r2 r2'
      have HS2 := Lib.hid (show S2 = x + y + cy by omega)
      have hS2l : S2 < 262144 := by omega
      clear hS1 hS2
      rw [← HS2.out] at HD HCY
      go_wp2_with fail
      go_quiet (fail)
      clear r1 r1' r2 r2'
      have OX3 := (OX.out.stored t (.int .u32 (sv : Nat)))
      rw [natsV_set, HSET.out] at OX3
      have O4 := Lib.hid OX3.1
      have RY2 := Lib.hid (RY.out.set ⟨gx, t, none⟩ (.int .u32 (sv : Nat)) (by simp; omega))
      have K4 := Lib.hid (K3.out.other ⟨gx, t, none⟩ (.int .u32 (sv : Nat)) (by simp; omega))
      have hb4 := (below_drewN hbel nq).setCell (p := ⟨gx, t, none⟩) (by simp; omega) (.int .u32 (sv : Nat))
      clear OX3 OX RY K3
      have rq : ((S2 : Nat) : Int) % 65536 = ((sv : Nat) : Int) := by rw [HD.out]; omega
      go_wp2_with fail
      go_roundw
      case rel => exact ⟨t + 1, by omega, by go_num, by rw [HCY.out]; go_num, O4.out, RY2.out, K4.out, hb4⟩
      case measure => simp [intOf] <;> omega
    · obtain rfl : t = 16 := by omega
      rw [show ((16 : Nat) : Int) = 16 from rfl]
      have LE := Lib.hid (show xs.take 16 ++ xa.drop 16 = xs by rw [List.take_of_length_le (by rw [T1.out]; decide), List.drop_of_length_le (by rw [T0.out]; decide), List.append_nil])
      rw [LE.out] at hown
      have RX := Lib.hid (RO.out _ _ _ _ hown)
      rw [CF.out]
      have K3 := Lib.hid k3
      have HAC := HACL.out
      clear hown hrd k3
      go_wp2_with fail
      refine (HN.out _ _ _ RX.out).mono ?_
      rintro e w3 ⟨rfl, hb3⟩
      have J3 := Lib.hid (K3.out.below' hb3)
      have hbel3 := hbel.trans (hb3.mono hbel.size)
      clear K3 hb3 hbel RX
      have j := J3.out.setRow (natsV .u64 ls)
      have hb2 := below_setRow' hbel3 (show w.heap.size ≤ w.heap.size + 1 + 1 by omega) (natsV .u64 ls).toArray
      go_wp2_with (refine st24 rfl (.tmp 4) (.tmp 38) rfl (w.heap.size + 1 + 1) rfl ls rfl LS.out (zeros 4) J3.out rfl ?_)
      refine bodyPost_ret (v := .tuple #[.agg (natsV .u64 ls).toArray, .int .i64 (addC a b : Nat)]) ?_ rfl ⟨rfl, hb2⟩
      exact ret24x Try.results96 _ _ (w.heap.size + 1 + 1) ls _ rfl rfl j LS.out
set_option maxRecDepth 100000 in
set_option maxHeartbeats 1600000 in
theorem refSub_any (a b : Nat) (w : World) (ha : a < 2 ^ 256) (hb : b < 2 ^ 256) :
    Calls Try.prog 98 #[.agg (natsV .u64 (wds 4 a)).toArray, .agg (natsV .u64 (wds 4 b)).toArray] w fun e w' => e = .returned (.tuple #[.agg (natsV .u64 (wds 4 (a + 2 ^ 256 - b))).toArray, .int .i64 (lt01 a b : Nat)]) ∧ Below w.heap.size w w' := by
  obtain ⟨V, hV⟩ : ∃ V, V = a + 2 ^ 256 - b := ⟨_, rfl⟩
  rw [← hV]
  have HV := Lib.hid (show V = a + (2 ^ 256 - 1 - b) + 1 by omega)
  clear hV
  have hb' : 2 ^ 256 - 1 - b < 2 ^ 256 := by omega
  have C0 := Lib.hid (show 1 - cyA (2 ^ 16) a (2 ^ 256 - 1 - b) 1 0 = 0 by rw [cyA_zero])
  have CLE := Lib.hid (fun t => cyA_le (B := 2 ^ 16) (by decide) a (2 ^ 256 - 1 - b) 1 t (by omega))
  have CO := fun t (h : t < 16) => show dgt (2 ^ 16) (2 ^ 256 - 1 - b) t = 65535 - dgt (2 ^ 16) b t by
    have := dgt_compl (B := 2 ^ 16) (by decide) b 16 t (by rw [pow16]; exact hb) h
    rw [pow16] at this; exact this
  have HDG := Lib.hid (fun t (h : t < 16) => show dgt (2 ^ 16) V t = (dgt (2 ^ 16) a t + (65535 - dgt (2 ^ 16) b t) + cyA (2 ^ 16) a (2 ^ 256 - 1 - b) 1 t) % 2 ^ 16 from by rw [HV.out, dgt_sum (B := 2 ^ 16) (by decide), CO t h])
  have HCS := Lib.hid (fun t (h : t < 16) => show cyA (2 ^ 16) a (2 ^ 256 - 1 - b) 1 (t + 1) = (dgt (2 ^ 16) a t + (65535 - dgt (2 ^ 16) b t) + cyA (2 ^ 16) a (2 ^ 256 - 1 - b) 1 t) / 2 ^ 16 from by rw [cyA_succ (B := 2 ^ 16) (by decide), CO t h])
  have HACL := Lib.hid (show lt01 a b ≤ 1 by unfold lt01; split <;> omega)
  have CF := Lib.hid (show 1 - cyA (2 ^ 16) a (2 ^ 256 - 1 - b) 1 16 = lt01 a b from by
    rw [cyA_top (by rw [pow16]; exact ha) (by rw [pow16]; exact hb'), pow16]
    unfold lt01
    split <;> omega)
  clear CO hb'
  have LS := Lib.hid (wds_len 4 V)
  have LA := Lib.hid (wds_len 4 a)
  have LB := Lib.hid (wds_len 4 b)
  have DA := Lib.hid (fun w => Digits_any a w)
  have DB := Lib.hid (fun w => Digits_any b w)
  have HN := Lib.hid (fun (w : World) (g c : Nat) (h : Rd16 w g 16 V) => Num_any V 16 c g w h (by omega) (by omega))
  have T0 := Lib.hid (tell_length (dgt (2 ^ 16) a) 16)
  have T1 := Lib.hid (tell_length (dgt (2 ^ 16) V) 16)
  have G0 := Lib.hid (fun i hi => tell_getD (dgt (2 ^ 16) a) 16 i hi)
  have G1 := Lib.hid (fun i hi => tell_getD (dgt (2 ^ 16) V) 16 i hi)
  have RO := Lib.hid (fun (w : World) (B g c : Nat) (h : w.ownsRow B 77 1 (.slice (some ⟨g, 0, none⟩) 16 c) 16 (natsV .u32 (tell (dgt (2 ^ 16) V) 16))) => rd16_own h)
  have MD := Lib.hid (fun (w w' : World) (e : Ending) (h : Made32 (tell (dgt (2 ^ 16) a) 16) w e w') => made16 h (by decide))
  generalize wds 4 V = ls at *
  generalize wds 4 a = la at *
  generalize wds 4 b = lb at *
  generalize tell (dgt (2 ^ 16) a) 16 = xa at *
  generalize tell (dgt (2 ^ 16) V) 16 = xs at *
  have B1 := Lib.hid (((Blk.new w 24 (natsV .u64 la)).alloc (.cells (natsV .u64 lb).toArray 24)).alloc (.cells (natsV .u64 (zeros 4)).toArray 24))
  have B2 := Lib.hid ((Blk.new2 w (.cells (natsV .u64 la).toArray 24) 24 (natsV .u64 lb)).alloc (.cells (natsV .u64 (zeros 4)).toArray 24))
  have B3 := Lib.hid (Blk.new3 w (.cells (natsV .u64 la).toArray 24) (.cells (natsV .u64 lb).toArray 24) 24 (natsV .u64 (zeros 4)))
  have BEL := Lib.hid ((((Below.refl w.heap.size w).alloc (Nat.le_refl _) (.cells (natsV .u64 la).toArray 24)).alloc (by simp) (.cells (natsV .u64 lb).toArray 24)).alloc (by simp; omega) (.cells (natsV .u64 (zeros 4)).toArray 24))
  go_enter Try.func98, Try.ntmps98
  go_wp2_with (first | (refine ld24 rfl (.tmp 2) rfl w.heap.size rfl la B1.out LA.out ?_))
  refine (DA.out _).mono ?_
  rintro e w1 hm
  obtain ⟨gx, cx, rfl, hgx, hcx, hown0, _, hb1⟩ := MD.out _ _ _ hm
  have C2 := Lib.hid (B2.out.below' hb1)
  have C3 := Lib.hid (B3.out.below' hb1)
  have hbel1 := BEL.out.trans (hb1.mono BEL.out.size)
  have OX := Lib.hid (own_low hown0 (show w.heap.size + 1 + 1 + 1 ≤ _ by simp))
  have hgx2 : w.heap.size + 1 + 1 < gx := by simp at hgx; omega
  clear B1 B2 B3 BEL hb1 hm hgx hown0 MD DA
  go_wp2_with (first | (refine ld24 rfl (.tmp 3) rfl (w.heap.size + 1) rfl lb C2.out LB.out ?_))
  refine (DB.out _).mono ?_
  rintro e w2 hm
  obtain ⟨gy, cy0, rfl, hgy, hcy, _, hrd, hb2⟩ := made16 hm (by decide)
  have D3 := Lib.hid (C3.out.below' hb2)
  have hbel2 := hbel1.trans (hb2.mono hbel1.size)
  have OX2 := Lib.hid (own_below OX.out hb2)
  have RY := Lib.hid hrd
  have hgxy : gx < gy := Nat.lt_of_lt_of_le (OX.out.lt gx rfl).2 hgy
  clear C2 C3 hbel1 hb2 hm OX hrd DB hgy
  go_wp2_with fail
  go_loopw [8, 9] (fun cc i wr => ∃ t : Nat, t ≤ 16 ∧ i = .int .i64 t ∧ cc = .int .u32 (1 - cyA (2 ^ 16) a (2 ^ 256 - 1 - b) 1 t : Nat) ∧ wr.ownsRow (w.heap.size + 1 + 1 + 1) 77 1 (.slice (some ⟨gx, 0, none⟩) 16 cx) 16 (natsV .u32 (xs.take t ++ xa.drop t)) ∧ Rd16 wr gy 16 b ∧ Blk wr (w.heap.size + 1 + 1) 24 (natsV .u64 (zeros 4)) ∧ Below w.heap.size w wr) (fun _ i _ => 16 - (intOf i).toNat)
  case atStart => exact ⟨0, by omega, rfl, by rw [C0.out]; rfl, by simpa using OX2.out, RY.out, D3.out, hbel2⟩
  case round =>
    clear OX2 RY D3 hbel2
    obtain ⟨t, ht, rfl, rfl, hown, hrd, k3, hbel⟩ := hrel
    by_cases h5 : t < 16
    · as_aux_lemma =>
      have hti : (t : Int) < 16 := by omega
      have hti2 : (t : Int) < ((16 : Nat) : Int) := by omega
      have c0 := (hown.cellAt t (by omega)).trans (natsV_get .u32 _ t (by rw [mix_len xs xa t 16 T1.out T0.out ht]; exact h5))
      have hf := hown.frozenAt t
      rw [mix_get xs xa t 16 T1.out T0.out h5, G0.out t h5] at c0
      have c1 := hrd t h5
      have HSET := Lib.hid (mix_set xs xa t 16 T1.out T0.out h5)
      rw [G1.out t h5] at HSET
      have OX := Lib.hid hown
      have RY := Lib.hid hrd
      have K3 := Lib.hid k3
      clear hown hrd k3
      have HXD := dgt_lt (B := 2 ^ 16) (by decide) a t
      have HYD := dgt_lt (B := 2 ^ 16) (by decide) b t
      have CL := CLE.out t
      have HD := Lib.hid (HDG.out t h5)
      have HCY := Lib.hid (HCS.out t h5)
      generalize dgt (2 ^ 16) V t = sv at *
      generalize dgt (2 ^ 16) a t = x at *
      generalize dgt (2 ^ 16) b t = y at *
      generalize cyA (2 ^ 16) a (2 ^ 256 - 1 - b) 1 t = cy at *
      obtain ⟨cc, hcc⟩ : ∃ cc, cc = 1 - cy := ⟨_, rfl⟩
      rw [← hcc]
      have r1 : IntKind.u32.wrap ((x : Int) + 65536) = ((x + 65536 : Nat) : Int) := by rw [IntKind.wrap_u32']; omega
      have r1' : ((x : Int) + 65536) % 4294967296 = ((x + 65536 : Nat) : Int) := by omega
      obtain ⟨S0, hS0⟩ : ∃ S0, S0 = x + 65536 := ⟨_, rfl⟩
      rw [← hS0] at r1 r1'
      have r2 : IntKind.u32.wrap ((S0 : Int) - (y : Int)) = ((S0 - y : Nat) : Int) := by rw [IntKind.wrap_u32']; omega
      have r2' : ((S0 : Int) - (y : Int)) % 4294967296 = ((S0 - y : Nat) : Int) := by omega
      obtain ⟨S1, hS1⟩ : ∃ S1, S1 = S0 - y := ⟨_, rfl⟩
      rw [← hS1] at r2 r2'
      have r3 : IntKind.u32.wrap ((S1 : Int) - (cc : Int)) = ((S1 - cc : Nat) : Int) := by rw [IntKind.wrap_u32']; omega
      have r3' : ((S1 : Int) - (cc : Int)) % 4294967296 = ((S1 - cc : Nat) : Int) := by omega
      obtain ⟨S2, hS2⟩ : ∃ S2, S2 = S1 - cc := ⟨_, rfl⟩
      rw [← hS2] at r3 r3'
      have HS2 := Lib.hid (show S2 = x + (65535 - y) + cy by omega)
      have hS2l : S2 < 131072 := by omega
      clear hS1 hS2 hS0 hcc
      rw [← HS2.out] at HD HCY
      go_wp2_with fail
      go_quiet (fail)
      clear r1 r1' r2 r2' r3 r3'
      have OX3 := (OX.out.stored t (.int .u32 (sv : Nat)))
      rw [natsV_set, HSET.out] at OX3
      have O4 := Lib.hid OX3.1
      have RY2 := Lib.hid (RY.out.set ⟨gx, t, none⟩ (.int .u32 (sv : Nat)) (by simp; omega))
      have K4 := Lib.hid (K3.out.other ⟨gx, t, none⟩ (.int .u32 (sv : Nat)) (by simp; omega))
      have hb4 := (below_drewN hbel nq).setCell (p := ⟨gx, t, none⟩) (by simp; omega) (.int .u32 (sv : Nat))
      clear OX3 OX RY K3
      have rq : ((S2 : Nat) : Int) % 65536 = ((sv : Nat) : Int) := by rw [HD.out]; omega
      go_wp2_with fail
      go_roundw
      case rel => exact ⟨t + 1, by omega, by go_num, by rw [HCY.out]; exact congrArg (Value.int .u32) (show (1 : Int) - (S2 : Int) / 65536 = ((1 - S2 / 2 ^ 16 : Nat) : Int) by omega), O4.out, RY2.out, K4.out, hb4⟩
      case measure => simp [intOf] <;> omega
    · obtain rfl : t = 16 := by omega
      rw [show ((16 : Nat) : Int) = 16 from rfl]
      have LE := Lib.hid (show xs.take 16 ++ xa.drop 16 = xs by rw [List.take_of_length_le (by rw [T1.out]; decide), List.drop_of_length_le (by rw [T0.out]; decide), List.append_nil])
      rw [LE.out] at hown
      have RX := Lib.hid (RO.out _ _ _ _ hown)
      rw [CF.out]
      have K3 := Lib.hid k3
      have HAC := HACL.out
      clear hown hrd k3
      go_wp2_with fail
      refine (HN.out _ _ _ RX.out).mono ?_
      rintro e w3 ⟨rfl, hb3⟩
      have J3 := Lib.hid (K3.out.below' hb3)
      have hbel3 := hbel.trans (hb3.mono hbel.size)
      clear K3 hb3 hbel RX
      have j := J3.out.setRow (natsV .u64 ls)
      have hb2 := below_setRow' hbel3 (show w.heap.size ≤ w.heap.size + 1 + 1 by omega) (natsV .u64 ls).toArray
      go_wp2_with (refine st24 rfl (.tmp 4) (.tmp 40) rfl (w.heap.size + 1 + 1) rfl ls rfl LS.out (zeros 4) J3.out rfl ?_)
      refine bodyPost_ret (v := .tuple #[.agg (natsV .u64 ls).toArray, .int .i64 (lt01 a b : Nat)]) ?_ rfl ⟨rfl, hb2⟩
      exact ret24x Try.results98 _ _ (w.heap.size + 1 + 1) ls _ rfl rfl j LS.out
end Go.Proofs.Ytfffmoolkgheaaa
