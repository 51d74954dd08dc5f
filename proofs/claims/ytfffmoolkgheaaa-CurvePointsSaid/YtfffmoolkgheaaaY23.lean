/- Parts of proofs of statements, each text behind those that it stands on. No condition of its own. -/
import Derived.Test.YtfffmoolkgheaaaY10
namespace Go.Proofs.Ytfffmoolkgheaaa
open Go.RowKit
set_option linter.unusedVariables false
set_option linter.unusedSimpArgs false
theorem info122 : (Try.prog.info? 122).map (·.size) = some 16 := by kernel_rfl
section
variable {w : World} {ops : Array Oper} {rest : List Oper} {o : Oper} {a : Act} {Q : Exit → Act → World → Prop}
theorem ld122 (hgd : o.guard = none) (x : Operand) (ho : o.op = .load 122 x) (g : Nat) (hx : a.eval x = .pointer (some ⟨g, 0, none⟩)) (l : List Nat) (hg : Blk w g 122 (natsV .u64 l)) (hl : l.length = 16)
    (h : wpList Try.prog ops Q rest (a.put o.dst (.agg (natsV .u64 l).toArray)) w) : wpList Try.prog ops Q (o :: rest) a w :=
  wpList_load_row hgd 122 x ho g hx 122 (natsV .u64 l).toArray (0, 0) _ hg Try.underlying122 rfl (by rw [info122, size_nats, hl]) h
theorem st122 (hgd : o.guard = none) (x y : Operand) (ho : o.op = .store 122 x y) (g : Nat) (hx : a.eval x = .pointer (some ⟨g, 0, none⟩)) (l : List Nat) (hy : a.eval y = .agg (natsV .u64 l).toArray) (hl : l.length = 16) (old : List Nat) (hg : Blk w g 122 (natsV .u64 old)) (ho4 : old.length = 16)
    (h : wpList Try.prog ops Q rest (a.put o.dst undef) (w.setRow g (natsV .u64 l).toArray)) : wpList Try.prog ops Q (o :: rest) a w :=
  wpList_store_row hgd 122 x y ho g (natsV .u64 l).toArray hx hy 122 (natsV .u64 old).toArray hg (by rw [info122, size_nats, hl]) (by rw [size_nats, size_nats, hl, ho4]) (all_nats _ _) h
end
theorem ret122 {fn : Func} {p : Tmp} (h : fn.results = #[.cell p 122]) (tmps : Array Value) (w : World) (g : Nat) (l : List Nat) (hp : tmps.getD p undef = .pointer (some ⟨g, 0, none⟩)) (hg : Blk w g 122 (natsV .u64 l)) (hl : l.length = 16) :
    (results fn tmps).run Try.prog w = .ok (.agg (natsV .u64 l).toArray) w :=
  results_cell_row h tmps w g 122 _ (0, 0) _ hp hg Try.underlying122 rfl (by rw [info122, size_nats, hl])
theorem ret26 {fn : Func} {p : Tmp} (h : fn.results = #[.cell p 26]) (tmps : Array Value) (w : World) (g : Nat) (l : List Nat) (hp : tmps.getD p undef = .pointer (some ⟨g, 0, none⟩)) (hg : Blk w g 26 (natsV .u64 l)) (hl : l.length = 8) :
    (results fn tmps).run Try.prog w = .ok (.agg (natsV .u64 l).toArray) w :=
  results_cell_row h tmps w g 26 _ (0, 0) _ hp hg Try.underlying26 rfl (by rw [info26, size_nats, hl])
def hds (n v : Nat) : List Nat := tell (dgt (2 ^ 32) v) n
theorem hds_len (n v : Nat) : (hds n v).length = n := tell_length _ _
theorem hds_at (n v i : Nat) (h : i < n) : (hds n v).getD i 0 = dgt (2 ^ 32) v i := tell_getD _ _ _ h
theorem r_lo (x p : Nat) (h : p = x % 4294967296) : (x : Int) % 4294967296 = (p : Int) := by omega
theorem r_hi (x p : Nat) (h : p = x / 4294967296) : (x : Int) / 4294967296 = (p : Int) := by omega
set_option maxRecDepth 100000 in
set_option maxHeartbeats 800000 in
theorem digits_any5 (X : Nat) (w : World) : Calls Try.prog 128 #[.agg (natsV .u64 (wds 4 X)).toArray] w fun e w' => e = .returned (.agg (natsV .u64 (hds 8 X)).toArray) ∧ Below w.heap.size w w' := by
  have LX := Lib.hid (wds_len 4 X)
  have AX := Lib.hid (wds_at 4 X)
  have LH := Lib.hid (hds_len 8 X)
  have HE := Lib.hid (show tell (dgt (2 ^ 32) X) (2 * 4) ++ zeros (8 - 2 * 4) = hds 8 X by simp [zeros, hds])
  generalize hds 8 X = lh at *
  generalize wds 4 X = lx at *
  have B1 := Lib.hid (((Blk.new w 24 (natsV .u64 lx)).alloc (.cells (natsV .u64 (zeros 8)).toArray 26)).alloc (.cells (natsV .u64 (zeros 8)).toArray 26))
  have B2 := Lib.hid ((Blk.new2 w (.cells (natsV .u64 lx).toArray 24) 26 (natsV .u64 (zeros 8))).alloc (.cells (natsV .u64 (zeros 8)).toArray 26))
  have B3 := Lib.hid (Blk.new3 w (.cells (natsV .u64 lx).toArray 24) (.cells (natsV .u64 (zeros 8)).toArray 26) 26 (natsV .u64 (zeros 8)))
  have BEL := Lib.hid ((((Below.refl w.heap.size w).alloc (Nat.le_refl _) (.cells (natsV .u64 lx).toArray 24)).alloc (by simp) (.cells (natsV .u64 (zeros 8)).toArray 26)).alloc (by simp; omega) (.cells (natsV .u64 (zeros 8)).toArray 26))
  go_enter Try.func128, Try.ntmps128
  go_wp2_with fail
  go_loopw [4] (fun i wr => ∃ t : Nat, t ≤ 4 ∧ i = .int .i64 t ∧ Blk wr w.heap.size 24 (natsV .u64 lx) ∧ Blk wr (w.heap.size + 1) 26 (natsV .u64 (zeros 8)) ∧ Blk wr (w.heap.size + 1 + 1) 26 (natsV .u64 (tell (dgt (2 ^ 32) X) (2 * t) ++ zeros (8 - 2 * t))) ∧ Below w.heap.size w wr) (fun i _ => 4 - (intOf i).toNat)
  case atStart => exact ⟨0, by omega, rfl, B1.out, B2.out, B3.out, BEL.out⟩
  case round =>
    clear B1 B2 B3 BEL
    obtain ⟨t, ht, rfl, k1, k2, k3, hbel⟩ := hrel
    have K1 := Lib.hid k1
    have K2 := Lib.hid k2
    have K3 := Lib.hid k3
    clear k1 k2 k3
    by_cases hs : t < 4
    · as_aux_lemma =>
      have hti : (t : Int) < 4 := by omega
      have xt := AX.out t hs
      have c0 := K1.out.nat t (by rw [LX.out]; exact hs)
      rw [xt] at c0
      have hlo := half_lo X t
      have hhi := half_hi X t
      have hset : ((tell (dgt (2 ^ 32) X) (2 * t) ++ zeros (8 - 2 * t)).set (2 * t) (dgt (2 ^ 32) X (2 * t))).set (2 * t + 1) (dgt (2 ^ 32) X (2 * t + 1)) = tell (dgt (2 ^ 32) X) (2 * (t + 1)) ++ zeros (8 - 2 * (t + 1)) := by
        rw [fill_tell _ 8 (2 * t) (by omega), fill_tell _ 8 (2 * t + 1) (by omega)]
        rfl
      have hlen : (tell (dgt (2 ^ 32) X) (2 * t) ++ zeros (8 - 2 * t)).length = 8 := by simp [tell_length, zeros]; omega
      have e1 := r_lo (dgt (2 ^ 64) X t) _ hlo.symm
      have e2 := r_hi (dgt (2 ^ 64) X t) _ hhi.symm
      have e3 := u64_in (dgt (2 ^ 32) X (2 * t + 1)) (Nat.lt_trans (dgt_lt (B := 2 ^ 32) (by decide) X (2 * t + 1)) (by decide))
      have HSET := Lib.hid hset
      have LXo := LX.out
      clear hset hlo hhi AX
      generalize dgt (2 ^ 32) X (2 * t + 1) = hi at *
      generalize dgt (2 ^ 32) X (2 * t) = lo at *
      generalize dgt (2 ^ 64) X t = x at *
      obtain ⟨p, hp⟩ : ∃ p, p = 2 * t := ⟨_, rfl⟩
      rw [← hp] at HSET K3 hlen
      obtain ⟨q, hq⟩ : ∃ q, q = p + 1 := ⟨_, rfl⟩
      rw [← hq] at HSET
      generalize tell (dgt (2 ^ 32) X) p ++ zeros (8 - p) = lc at *
      have i1 : 2 * (t : Int) = (p : Int) := by omega
      have i2 : (p : Int) + 1 = (q : Int) := by omega
      have hp0 : (p : Int) < 8 := by omega
      have hq0 : (q : Int) < 8 := by omega
      have hpi : (p : Nat) < 8 := by omega
      have hqi : (q : Nat) < 8 := by omega
      have d0 := K3.out.nat p (by rw [hlen]; exact hpi)
      have f0 := K3.out.free p
      have k3 := Lib.hid (K3.out.natSet p lo)
      have d1 := k3.out.nat q (by rw [List.length_set, hlen]; exact hqi)
      have f1 := k3.out.free q
      have m3 := Lib.hid (k3.out.natSet q hi)
      rw [HSET.out] at m3
      have k1 := Lib.hid (K1.out.other ⟨w.heap.size + 1 + 1, p, none⟩ (.int .u64 (lo : Nat)) (by simp; omega))
      have c1 := k1.out.nat t (by rw [LXo]; exact hs)
      rw [xt] at c1
      have k2 := Lib.hid (K2.out.other ⟨w.heap.size + 1 + 1, p, none⟩ (.int .u64 (lo : Nat)) (by simp))
      have m1 := Lib.hid (k1.out.other ⟨w.heap.size + 1 + 1, q, none⟩ (.int .u64 (hi : Nat)) (by simp; omega))
      have m2 := Lib.hid (k2.out.other ⟨w.heap.size + 1 + 1, q, none⟩ (.int .u64 (hi : Nat)) (by simp))
      have hb1 := hbel.setCell (p := ⟨w.heap.size + 1 + 1, p, none⟩) (by simp; omega) (.int .u64 (lo : Nat))
      have hb2 := hb1.setCell (p := ⟨w.heap.size + 1 + 1, q, none⟩) (by simp; omega) (.int .u64 (hi : Nat))
      clear hp hq HSET LXo
      go_wp2_with fail
      go_roundw
      case rel => exact ⟨t + 1, by omega, by go_num, m1.out, m2.out, m3.out, hb2⟩
      case measure => simp [intOf] <;> omega
    · obtain rfl : t = 4 := by omega
      rw [show ((4 : Nat) : Int) = 4 from rfl]
      rw [HE.out] at K3
      have j2 := K2.out.setRow (natsV .u64 lh)
      have hb2 := below_setRow' hbel (show w.heap.size ≤ w.heap.size + 1 by omega) (natsV .u64 lh).toArray
      go_wp2_with (first | (refine ld26 rfl (.tmp 3) rfl (w.heap.size + 1 + 1) rfl lh K3.out LH.out ?_) | (refine st26 rfl (.tmp 2) (.tmp 24) rfl (w.heap.size + 1) rfl lh rfl LH.out (zeros 8) K2.out rfl ?_))
      refine bodyPost_ret (v := .agg (natsV .u64 lh).toArray) ?_ rfl ⟨rfl, hb2⟩
      exact ret26 Try.results128 _ _ (w.heap.size + 1) lh rfl j2 LH.out
theorem hdg_div (V f i : Nat) : dgt (2 ^ 32) (V / (2 ^ 32) ^ f) i = dgt (2 ^ 32) V (f + i) := by
  unfold dgt; rw [Nat.div_div_eq_div_mul, Nat.pow_add]
set_option maxRecDepth 100000 in
set_option maxHeartbeats 800000 in
theorem number_any5 (V f : Nat) (w : World) (hf : f ≤ 8) : Calls Try.prog 104 #[.agg (natsV .u64 (hds 16 V)).toArray, .int .i64 (f : Nat)] w fun e w' => e = .returned (.agg (natsV .u64 (wds 4 (V / (2 ^ 32) ^ f))).toArray) ∧ Below w.heap.size w w' := by
  have LV := Lib.hid (hds_len 16 V)
  have AV := Lib.hid (hds_at 16 V)
  have HD := Lib.hid (fun i => hdg_div V f i)
  have LW := Lib.hid (wds_len 4 (V / (2 ^ 32) ^ f))
  have HLV := Lib.hid (show tell (dgt (2 ^ 64) (V / (2 ^ 32) ^ f)) 4 ++ zeros (4 - 4) = wds 4 (V / (2 ^ 32) ^ f) by simp [zeros, wds])
  generalize wds 4 (V / (2 ^ 32) ^ f) = lv at *
  generalize V / (2 ^ 32) ^ f = U at *
  generalize hds 16 V = lV at *
  have B1 := Lib.hid (((Blk.new w 122 (natsV .u64 lV)).alloc (.cells (natsV .u64 (zeros 4)).toArray 24)).alloc (.cells (natsV .u64 (zeros 4)).toArray 24))
  have B2 := Lib.hid ((Blk.new2 w (.cells (natsV .u64 lV).toArray 122) 24 (natsV .u64 (zeros 4))).alloc (.cells (natsV .u64 (zeros 4)).toArray 24))
  have B3 := Lib.hid (Blk.new3 w (.cells (natsV .u64 lV).toArray 122) (.cells (natsV .u64 (zeros 4)).toArray 24) 24 (natsV .u64 (zeros 4)))
  have BEL := Lib.hid ((((Below.refl w.heap.size w).alloc (Nat.le_refl _) (.cells (natsV .u64 lV).toArray 122)).alloc (by simp) (.cells (natsV .u64 (zeros 4)).toArray 24)).alloc (by simp; omega) (.cells (natsV .u64 (zeros 4)).toArray 24))
  go_enter Try.func104, Try.ntmps104
  go_wp2_with fail
  go_loopw [6] (fun i wr => ∃ t : Nat, t ≤ 4 ∧ i = .int .i64 t ∧ Blk wr w.heap.size 122 (natsV .u64 lV) ∧ Blk wr (w.heap.size + 1) 24 (natsV .u64 (zeros 4)) ∧ Blk wr (w.heap.size + 1 + 1) 24 (natsV .u64 (tell (dgt (2 ^ 64) U) t ++ zeros (4 - t))) ∧ Below w.heap.size w wr) (fun i _ => 4 - (intOf i).toNat)
  case atStart => exact ⟨0, by omega, rfl, B1.out, B2.out, B3.out, BEL.out⟩
  case round =>
    clear B1 B2 B3 BEL
    obtain ⟨t, ht, rfl, k1, k2, k3, hbel⟩ := hrel
    have K1 := Lib.hid k1
    have K2 := Lib.hid k2
    have K3 := Lib.hid k3
    clear k1 k2 k3
    by_cases hs : t < 4
    · as_aux_lemma =>
      have hti : (t : Int) < 4 := by omega
      have c0 := K1.out.nat (f + 2 * t) (by rw [LV.out]; omega)
      have c1 := K1.out.nat (f + (2 * t + 1)) (by rw [LV.out]; omega)
      rw [AV.out _ (by omega), ← HD.out] at c0 c1
      have h0 := dgt_lt (B := 2 ^ 32) (by decide) U (2 * t)
      have h1 := dgt_lt (B := 2 ^ 32) (by decide) U (2 * t + 1)
      have hof := half_of U t
      have hset := fill_tell (dgt (2 ^ 64) U) 4 t hs
      have hlen : (tell (dgt (2 ^ 64) U) t ++ zeros (4 - t)).length = 4 := by simp [tell_length, zeros]; omega
      have HSET := Lib.hid hset
      clear hset HD AV HLV
      generalize dgt (2 ^ 32) U (2 * t) = lo at *
      generalize dgt (2 ^ 32) U (2 * t + 1) = hi at *
      generalize dgt (2 ^ 64) U t = x at *
      generalize tell (dgt (2 ^ 64) U) t ++ zeros (4 - t) = lc at *
      obtain ⟨r, hr⟩ : ∃ r, r = 2 * t := ⟨_, rfl⟩
      obtain ⟨p, hp⟩ : ∃ p, p = f + 2 * t := ⟨_, rfl⟩
      obtain ⟨q, hq⟩ : ∃ q, q = f + (2 * t + 1) := ⟨_, rfl⟩
      rw [← hp] at c0
      rw [← hq] at c1
      have i0 : 2 * (t : Int) = (r : Int) := by omega
      have i1 : (f : Int) + (r : Int) = (p : Int) := by omega
      have i2 : (p : Int) + 1 = (q : Int) := by omega
      have hp8 : (p : Int) < 16 := by omega
      have hq8 : (q : Int) < 16 := by omega
      obtain ⟨tw, htw⟩ : ∃ t, t = 4294967296 * hi := ⟨_, rfl⟩
      have etw : IntKind.u64.wrap ((hi : Int) * 4294967296) = (tw : Int) := by rw [IntKind.wrap_u64]; omega
      have eor : IntKind.u64.wrap ((lo : Int) + (tw : Int)) = (x : Int) := by rw [IntKind.wrap_u64]; omega
      have d0 := K3.out.nat t (by rw [hlen]; exact hs)
      have f0 := K3.out.free t
      have n3 := Lib.hid (K3.out.natSet t x)
      rw [HSET.out] at n3
      have n1 := Lib.hid (K1.out.other ⟨w.heap.size + 1 + 1, t, none⟩ (.int .u64 (x : Nat)) (by simp; omega))
      have n2 := Lib.hid (K2.out.other ⟨w.heap.size + 1 + 1, t, none⟩ (.int .u64 (x : Nat)) (by simp))
      have hb2 := hbel.setCell (p := ⟨w.heap.size + 1 + 1, t, none⟩) (by simp; omega) (.int .u64 (x : Nat))
      clear hp hq hr htw HSET
      go_wp2_with fail
      go_region
      go_wp2_with fail
      go_roundw
      case rel => exact ⟨t + 1, by omega, by go_num, n1.out, n2.out, n3.out, hb2.drew⟩
      case measure => simp [intOf] <;> omega
    · obtain rfl : t = 4 := by omega
      rw [show ((4 : Nat) : Int) = 4 from rfl]
      rw [HLV.out] at K3
      have j2 := K2.out.setRow (natsV .u64 lv)
      have hb2 := below_setRow' hbel (show w.heap.size ≤ w.heap.size + 1 by omega) (natsV .u64 lv).toArray
      go_wp2_with (first | (refine ld24 rfl (.tmp 5) rfl (w.heap.size + 1 + 1) rfl lv K3.out LW.out ?_) | (refine st24 rfl (.tmp 4) (.tmp 28) rfl (w.heap.size + 1) rfl lv rfl LW.out (zeros 4) K2.out rfl ?_))
      refine bodyPost_ret (v := .agg (natsV .u64 lv).toArray) ?_ rfl ⟨rfl, hb2⟩
      exact ret24 Try.results104 _ _ (w.heap.size + 1) lv rfl j2 LW.out
def CarAt (T k cy : Nat) (l : List Nat) : Prop := l.length = 16 ∧ (∀ y ∈ l, y < 2 ^ 32) ∧ cy < 2 ^ 32 ∧ val (2 ^ 32) l + (2 ^ 32) ^ k * cy = T
theorem CarAt.next {T k cy : Nat} {l : List Nat} (h : CarAt T k cy l) (hk : k < 16) (s : Nat) (hs : s = l.getD k 0 + cy) :
    s < 8589934592 ∧ CarAt T (k + 1) (s / 4294967296) (l.set k (s % 4294967296)) := by
  obtain ⟨h1, h2, h3, h4⟩ := h
  have hp := getD_lt' h2 (by decide) k
  refine ⟨by omega, by rw [List.length_set]; exact h1, set_lt h2 (Nat.mod_lt _ (by decide)), by omega, ?_⟩
  have hset := val_set (2 ^ 32) l k (s % 4294967296) (by rw [h1]; exact hk)
  have hmd := Nat.mod_add_div s 4294967296
  have e1 : (2 ^ 32) ^ (k + 1) * (s / 4294967296) = (2 ^ 32) ^ k * (4294967296 * (s / 4294967296)) := by
    have ep : (2 ^ 32) ^ (k + 1) = (2 ^ 32) ^ k * 4294967296 := Nat.pow_succ _ _
    rw [ep, Nat.mul_assoc]
  have h5 : (2 ^ 32) ^ k * (s % 4294967296 + 4294967296 * (s / 4294967296)) = (2 ^ 32) ^ k * (l.getD k 0 + cy) := by rw [hmd, hs]
  rw [Nat.mul_add, Nat.mul_add] at h5
  rw [e1]
  omega
theorem CarAt.done {T k cy : Nat} {l : List Nat} (h : CarAt T k cy l) (hT : T < (2 ^ 32) ^ 16) (hk : k = 16 ∨ cy = 0) : l.length = 16 ∧ (∀ y ∈ l, y < 2 ^ 32) ∧ val (2 ^ 32) l = T := by
  obtain ⟨h1, h2, h3, h4⟩ := h
  refine ⟨h1, h2, ?_⟩
  rcases hk with rfl | rfl
  · rcases Nat.eq_zero_or_pos cy with h0 | h0
    · rw [h0, Nat.mul_zero, Nat.add_zero] at h4; exact h4
    · exfalso
      have := Nat.le_mul_of_pos_right ((2 ^ 32) ^ 16) h0
      omega
  · rw [Nat.mul_zero, Nat.add_zero] at h4; exact h4
def PrAt (a b c i : Nat) (l : List Nat) : Prop := l.length = 16 ∧ (∀ y ∈ l, y < 2 ^ 32) ∧ val (2 ^ 32) l = c + (a % (2 ^ 32) ^ i) * b
theorem PrAt.start (a b c : Nat) (hc : c < 2 ^ 256) : PrAt a b c 0 (tell (dgt (2 ^ 32) c) 8 ++ zeros (16 - 8)) := by
  refine ⟨by simp [tell_length, zeros], fun y hy => ?_, ?_⟩
  · rcases List.mem_append.1 hy with h | h
    · exact tell_lt _ _ (fun i => dgt_lt (by decide) c i) 8 y h
    · rw [List.eq_of_mem_replicate h]; decide
  · rw [val_append, val_tell, val_zeros, Nat.mod_eq_of_lt (show c < (2 ^ 32) ^ 8 by rw [← Nat.pow_mul]; exact hc)]
    simp [Nat.mod_one]
theorem PrAt.rowStart {a b c i : Nat} {l : List Nat} (h : PrAt a b c i l) (d : Nat) : RowAt b d i (c + (a % (2 ^ 32) ^ i) * b) 0 0 l :=
  ⟨h.1, h.2.1, by decide, by rw [h.2.2]; simp [Nat.mod_one]⟩
theorem RowAt.carry {a b c i cy : Nat} {l : List Nat} (hb : b < 2 ^ 256) (h : RowAt b (dgt (2 ^ 32) a i) i (c + (a % (2 ^ 32) ^ i) * b) 8 cy l) : CarAt (c + (a % (2 ^ 32) ^ (i + 1)) * b) (i + 8) cy l := by
  obtain ⟨h1, h2, h3, h4⟩ := h
  refine ⟨h1, h2, h3, ?_⟩
  rw [h4, Nat.mod_eq_of_lt (show b < (2 ^ 32) ^ 8 by rw [← Nat.pow_mul]; exact hb), mod_pow_succ, Nat.add_mul, Nat.add_assoc]
  congr 2
  rw [Nat.mul_assoc]
theorem PrAt.lt {a b c i : Nat} (ha : a < 2 ^ 256) (hb : b < 2 ^ 256) (hc : c < 2 ^ 256) : c + (a % (2 ^ 32) ^ i) * b < (2 ^ 32) ^ 16 := by
  have h1 : a % (2 ^ 32) ^ i ≤ 2 ^ 256 - 1 := by have := Nat.mod_le a ((2 ^ 32) ^ i); omega
  have h2 := Nat.mul_le_mul h1 (show b ≤ 2 ^ 256 - 1 by omega)
  have h3 : (2 ^ 256 - 1) * (2 ^ 256 - 1) + (2 ^ 256 - 1) < (2 ^ 32) ^ 16 := by decide +kernel
  omega
theorem CarAt.pr {a b c i k cy : Nat} {l : List Nat} (ha : a < 2 ^ 256) (hb : b < 2 ^ 256) (hc : c < 2 ^ 256) (h : CarAt (c + (a % (2 ^ 32) ^ (i + 1)) * b) k cy l) (hk : k = 16 ∨ cy = 0) : PrAt a b c (i + 1) l :=
  h.done (PrAt.lt ha hb hc) hk
theorem PrAt.done {a b c : Nat} {l : List Nat} (h : PrAt a b c 8 l) (ha : a < 2 ^ 256) : l = hds 16 (a * b + c) := by
  obtain ⟨h1, h2, h3⟩ := h
  rw [Nat.mod_eq_of_lt (show a < (2 ^ 32) ^ 8 by rw [← Nat.pow_mul]; exact ha)] at h3
  have := tell_val (B := 2 ^ 32) (by decide) l h2
  rw [h1, h3, Nat.add_comm] at this
  exact this.symm
end Go.Proofs.Ytfffmoolkgheaaa
namespace Go.Proofs.Ytfffmoolkgheaaa
open Go.RowKit
set_option linter.unusedVariables false
set_option linter.unusedSimpArgs false
set_option maxRecDepth 100000 in
set_option maxHeartbeats 1600000 in
theorem product_any5 (a b c : Nat) (w : World) (ha : a < 2 ^ 256) (hb : b < 2 ^ 256) (hc : c < 2 ^ 256) :
    Calls Try.prog 103 #[.agg (natsV .u64 (wds 4 a)).toArray, .agg (natsV .u64 (wds 4 b)).toArray, .agg (natsV .u64 (wds 4 c)).toArray] w fun e w' => e = .returned (.agg (natsV .u64 (hds 16 (a * b + c))).toArray) ∧ Below w.heap.size w w' := by
  have HA := Lib.hid (fun w => digits_any5 a w)
  have HB := Lib.hid (fun w => digits_any5 b w)
  have HC := Lib.hid (fun w => digits_any5 c w)
  have LA := Lib.hid (wds_len 4 a)
  have LB := Lib.hid (wds_len 4 b)
  have LC := Lib.hid (wds_len 4 c)
  have MA := Lib.hid (hds_len 8 a)
  have MB := Lib.hid (hds_len 8 b)
  have MC := Lib.hid (hds_len 8 c)
  have AA := Lib.hid (hds_at 8 a)
  have AB := Lib.hid (hds_at 8 b)
  have AC := Lib.hid (hds_at 8 c)
  have LR := Lib.hid (hds_len 16 (a * b + c))
  have HDN := Lib.hid (fun (l : List Nat) (h : PrAt a b c 8 l) => h.done ha)
  have HST := Lib.hid (PrAt.start a b c hc)
  have HCR := Lib.hid (fun (i cy : Nat) (l : List Nat) (h : RowAt b (dgt (2 ^ 32) a i) i (c + (a % (2 ^ 32) ^ i) * b) 8 cy l) => RowAt.carry hb h)
  have HPR := Lib.hid (fun (i k cy : Nat) (l : List Nat) (h : CarAt (c + (a % (2 ^ 32) ^ (i + 1)) * b) k cy l) (hk : k = 16 ∨ cy = 0) => CarAt.pr ha hb hc h hk)
  obtain ⟨lr, hlr⟩ : ∃ l, l = hds 16 (a * b + c) := ⟨_, rfl⟩
  rw [← hlr] at LR HDN ⊢
  clear hlr
  generalize wds 4 a = la at *
  generalize wds 4 b = lb at *
  generalize wds 4 c = lc at *
  generalize hds 8 a = da at *
  generalize hds 8 b = db at *
  generalize hds 8 c = dc at *
  clear ha hb hc
  have B1 := Lib.hid ((((Blk.new w 24 (natsV .u64 la)).alloc (.cells (natsV .u64 lb).toArray 24)).alloc (.cells (natsV .u64 lc).toArray 24)).alloc (.cells (natsV .u64 (zeros 16)).toArray 122))
  have B2 := Lib.hid (((Blk.new2 w (.cells (natsV .u64 la).toArray 24) 24 (natsV .u64 lb)).alloc (.cells (natsV .u64 lc).toArray 24)).alloc (.cells (natsV .u64 (zeros 16)).toArray 122))
  have B3 := Lib.hid ((Blk.new3 w (.cells (natsV .u64 la).toArray 24) (.cells (natsV .u64 lb).toArray 24) 24 (natsV .u64 lc)).alloc (.cells (natsV .u64 (zeros 16)).toArray 122))
  have B4 := Lib.hid (Blk.new4 w (.cells (natsV .u64 la).toArray 24) (.cells (natsV .u64 lb).toArray 24) (.cells (natsV .u64 lc).toArray 24) 122 (natsV .u64 (zeros 16)))
  have BEL := Lib.hid (((((Below.refl w.heap.size w).alloc (Nat.le_refl _) (.cells (natsV .u64 la).toArray 24)).alloc (by simp) (.cells (natsV .u64 lb).toArray 24)).alloc (by simp; omega) (.cells (natsV .u64 lc).toArray 24)).alloc (by simp; omega) (.cells (natsV .u64 (zeros 16)).toArray 122))
  go_enter Try.func103, Try.ntmps103
  go_wp2_with (first | (refine ld24 rfl (.tmp 3) rfl w.heap.size rfl la B1.out LA.out ?_))
  refine (HA.out _).mono ?_
  rintro e w1 ⟨rfl, hbw1⟩
  have C2 := Lib.hid (B1.out.below' hbw1)
  have C3 := Lib.hid (B2.out.below' hbw1)
  have C4 := Lib.hid (B3.out.below' hbw1)
  have C5 := Lib.hid (B4.out.below' hbw1)
  have hbel6 := BEL.out.trans (hbw1.mono BEL.out.size)
  clear B1 B2 B3 B4 hbw1
  clear C2
  have Z8 := Lib.hid (Blk.new w1 26 (natsV .u64 (zeros 8)))
  have hz9 := Lib.hid (below_setRow' (hbel6.alloc hbel6.size (.cells (natsV .u64 (zeros 8)).toArray 26)) hbel6.size (natsV .u64 da).toArray)
  have Y10 := Lib.hid ((C3.out.alloc (.cells (natsV .u64 (zeros 8)).toArray 26)).row (natsV .u64 da).toArray (Nat.ne_of_lt C3.out.lt))
  have Y11 := Lib.hid ((C4.out.alloc (.cells (natsV .u64 (zeros 8)).toArray 26)).row (natsV .u64 da).toArray (Nat.ne_of_lt C4.out.lt))
  have Y12 := Lib.hid ((C5.out.alloc (.cells (natsV .u64 (zeros 8)).toArray 26)).row (natsV .u64 da).toArray (Nat.ne_of_lt C5.out.lt))
  have Y13 := Lib.hid (Z8.out.setRow (natsV .u64 da))
  go_wp2_with (first | (refine st26 rfl (.tmp 7) (.tmp 19) rfl w1.heap.size rfl da rfl MA.out (zeros 8) Z8.out rfl ?_; generalize hW : World.setRow _ _ _ = w7; have D15 := Lib.hid (show Blk w7 (w.heap.size + 1) 24 (natsV .u64 lb) from (by rw [← hW]; exact Y10.out)); have D16 := Lib.hid (show Blk w7 (w.heap.size + 1 + 1) 24 (natsV .u64 lc) from (by rw [← hW]; exact Y11.out)); have D17 := Lib.hid (show Blk w7 (w.heap.size + 1 + 1 + 1) 122 (natsV .u64 (zeros 16)) from (by rw [← hW]; exact Y12.out)); have D18 := Lib.hid (show Blk w7 w1.heap.size 26 (natsV .u64 da) from (by rw [← hW]; exact Y13.out)); have LE_D18 := (hbel6).size; have NE_D17 := Nat.ne_of_lt C5.out.lt; have hbel19 : Below w.heap.size w w7 := (by rw [← hW]; exact hz9.out); clear hW Z8 hz9 C3 C4 C5 Y10 Y11 Y12 Y13 hbel6; generalize w1.heap.size = G14 at *) | (refine ld24 rfl (.tmp 4) rfl (w.heap.size + 1) rfl lb D15.out LB.out ?_))
  refine (HB.out _).mono ?_
  rintro e w20 ⟨rfl, hbw20⟩
  have C21 := Lib.hid (D15.out.below' hbw20)
  have C22 := Lib.hid (D16.out.below' hbw20)
  have C23 := Lib.hid (D17.out.below' hbw20)
  have C24 := Lib.hid (D18.out.below' hbw20)
  have hbel25 := hbel19.trans (hbw20.mono hbel19.size)
  clear D15 D16 D17 D18 hbw20 hbel19
  clear C21
  have Z27 := Lib.hid (Blk.new w20 26 (natsV .u64 (zeros 8)))
  have hz28 := Lib.hid (below_setRow' (hbel25.alloc hbel25.size (.cells (natsV .u64 (zeros 8)).toArray 26)) hbel25.size (natsV .u64 db).toArray)
  have Y29 := Lib.hid ((C22.out.alloc (.cells (natsV .u64 (zeros 8)).toArray 26)).row (natsV .u64 db).toArray (Nat.ne_of_lt C22.out.lt))
  have Y30 := Lib.hid ((C23.out.alloc (.cells (natsV .u64 (zeros 8)).toArray 26)).row (natsV .u64 db).toArray (Nat.ne_of_lt C23.out.lt))
  have Y31 := Lib.hid ((C24.out.alloc (.cells (natsV .u64 (zeros 8)).toArray 26)).row (natsV .u64 db).toArray (Nat.ne_of_lt C24.out.lt))
  have Y32 := Lib.hid (Z27.out.setRow (natsV .u64 db))
  go_wp2_with (first | (refine st26 rfl (.tmp 8) (.tmp 21) rfl w20.heap.size rfl db rfl MB.out (zeros 8) Z27.out rfl ?_; generalize hW : World.setRow _ _ _ = w26; have D34 := Lib.hid (show Blk w26 (w.heap.size + 1 + 1) 24 (natsV .u64 lc) from (by rw [← hW]; exact Y29.out)); have D35 := Lib.hid (show Blk w26 (w.heap.size + 1 + 1 + 1) 122 (natsV .u64 (zeros 16)) from (by rw [← hW]; exact Y30.out)); have D36 := Lib.hid (show Blk w26 G14 26 (natsV .u64 da) from (by rw [← hW]; exact Y31.out)); have D37 := Lib.hid (show Blk w26 w20.heap.size 26 (natsV .u64 db) from (by rw [← hW]; exact Y32.out)); have LE_D37 := (hbel25).size; have NE_D36 := Nat.ne_of_lt C24.out.lt; have hbel38 : Below w.heap.size w w26 := (by rw [← hW]; exact hz28.out); clear hW Z27 hz28 C22 C23 C24 Y29 Y30 Y31 Y32 hbel25; generalize w20.heap.size = G33 at *) | (refine ld24 rfl (.tmp 5) rfl (w.heap.size + 1 + 1) rfl lc D34.out LC.out ?_))
  refine (HC.out _).mono ?_
  rintro e w39 ⟨rfl, hbw39⟩
  have C40 := Lib.hid (D34.out.below' hbw39)
  have C41 := Lib.hid (D35.out.below' hbw39)
  have C42 := Lib.hid (D36.out.below' hbw39)
  have C43 := Lib.hid (D37.out.below' hbw39)
  have hbel44 := hbel38.trans (hbw39.mono hbel38.size)
  clear D34 D35 D36 D37 hbw39 hbel38
  clear C40
  have Z46 := Lib.hid (Blk.new w39 26 (natsV .u64 (zeros 8)))
  have hz47 := Lib.hid (below_setRow' (hbel44.alloc hbel44.size (.cells (natsV .u64 (zeros 8)).toArray 26)) hbel44.size (natsV .u64 dc).toArray)
  have Y48 := Lib.hid ((C41.out.alloc (.cells (natsV .u64 (zeros 8)).toArray 26)).row (natsV .u64 dc).toArray (Nat.ne_of_lt C41.out.lt))
  have Y49 := Lib.hid ((C42.out.alloc (.cells (natsV .u64 (zeros 8)).toArray 26)).row (natsV .u64 dc).toArray (Nat.ne_of_lt C42.out.lt))
  have Y50 := Lib.hid ((C43.out.alloc (.cells (natsV .u64 (zeros 8)).toArray 26)).row (natsV .u64 dc).toArray (Nat.ne_of_lt C43.out.lt))
  have Y51 := Lib.hid (Z46.out.setRow (natsV .u64 dc))
  go_wp2_with (refine st26 rfl (.tmp 9) (.tmp 23) rfl w39.heap.size rfl dc rfl MC.out (zeros 8) Z46.out rfl ?_; generalize hW : World.setRow _ _ _ = w45; have D53 := Lib.hid (show Blk w45 (w.heap.size + 1 + 1 + 1) 122 (natsV .u64 (zeros 16)) from (by rw [← hW]; exact Y48.out)); have D54 := Lib.hid (show Blk w45 G14 26 (natsV .u64 da) from (by rw [← hW]; exact Y49.out)); have D55 := Lib.hid (show Blk w45 G33 26 (natsV .u64 db) from (by rw [← hW]; exact Y50.out)); have D56 := Lib.hid (show Blk w45 w39.heap.size 26 (natsV .u64 dc) from (by rw [← hW]; exact Y51.out)); have LE_D56 := (hbel44).size; have NE_D55 := Nat.ne_of_lt C43.out.lt; have hbel57 : Below w.heap.size w w45 := (by rw [← hW]; exact hz47.out); clear hW Z46 hz47 C41 C42 C43 Y48 Y49 Y50 Y51 hbel44; generalize w39.heap.size = G52 at *; have N_r := Lib.hid (D53.out.alloc (.cells (natsV .u64 (zeros 16)).toArray 122)); have N_x := Lib.hid (D54.out.alloc (.cells (natsV .u64 (zeros 16)).toArray 122)); have N_y := Lib.hid (D55.out.alloc (.cells (natsV .u64 (zeros 16)).toArray 122)); have N_z := Lib.hid (D56.out.alloc (.cells (natsV .u64 (zeros 16)).toArray 122)); have N_o := Lib.hid (Blk.new w45 122 (natsV .u64 (zeros 16))); have belN := (hbel57).alloc (hbel57).size (.cells (natsV .u64 (zeros 16)).toArray 122); have LT_r := D53.out.lt; have LT_x := D54.out.lt; have LT_y := D55.out.lt; have LT_z := D56.out.lt; have LE_o := (hbel57).size; clear D53 D54 D55 D56 hbel57)
  generalize hGo : w45.heap.size = Go_ at *
  clear hGo
  go_loopw [11] (fun i wr => ∃ t : Nat, t ≤ 8 ∧ i = .int .i64 t ∧ Blk wr (w.heap.size + 1 + 1 + 1) 122 (natsV .u64 (zeros 16)) ∧ Blk wr G14 26 (natsV .u64 da) ∧ Blk wr G33 26 (natsV .u64 db) ∧ Blk wr G52 26 (natsV .u64 dc) ∧ Blk wr Go_ 122 (natsV .u64 (tell (dgt (2 ^ 32) c) t ++ zeros (16 - t))) ∧ Below w.heap.size w wr) (fun i _ => 8 - (intOf i).toNat)
  case atStart => exact ⟨0, by omega, rfl, N_r.out, N_x.out, N_y.out, N_z.out, by rw [show tell (dgt (2 ^ 32) c) 0 ++ zeros (16 - 0) = zeros 16 by simp [tell]]; exact N_o.out, belN⟩
  case round =>
    clear N_r N_x N_y N_z N_o belN
    obtain ⟨t, ht, rfl, k_r, k_x, k_y, k_z, k_o, hbel⟩ := hrel
    have K_r := Lib.hid k_r
    have K_x := Lib.hid k_x
    have K_y := Lib.hid k_y
    have K_z := Lib.hid k_z
    have K_o := Lib.hid k_o
    clear k_r k_x k_y k_z k_o
    by_cases h8 : t < 8
    · as_aux_lemma =>
      have hti : (t : Int) < 8 := by omega
      have hti2 : (t : Int) < 16 := by omega
      have c0 := K_z.out.nat t (by rw [MC.out]; exact h8)
      rw [AC.out t h8] at c0
      have hset := fill_tell (dgt (2 ^ 32) c) 16 t (by omega)
      have hlen : (tell (dgt (2 ^ 32) c) t ++ zeros (16 - t)).length = 16 := by simp [tell_length, zeros]; omega
      have HSET := Lib.hid hset
      clear hset AC HST HCR HPR HDN
      generalize dgt (2 ^ 32) c t = x at *
      generalize tell (dgt (2 ^ 32) c) t ++ zeros (16 - t) = l0 at *
      have d0 := K_o.out.nat t (by rw [hlen]; omega)
      have f0 := K_o.out.free t
      have n_o := Lib.hid (K_o.out.natSet t x)
      have n_r := Lib.hid (K_r.out.other ⟨Go_, t, none⟩ (.int .u64 (x : Nat)) (show (w.heap.size + 1 + 1 + 1) ≠ Go_ by omega))
      have n_x := Lib.hid (K_x.out.other ⟨Go_, t, none⟩ (.int .u64 (x : Nat)) (show G14 ≠ Go_ by omega))
      have n_y := Lib.hid (K_y.out.other ⟨Go_, t, none⟩ (.int .u64 (x : Nat)) (show G33 ≠ Go_ by omega))
      have n_z := Lib.hid (K_z.out.other ⟨Go_, t, none⟩ (.int .u64 (x : Nat)) (show G52 ≠ Go_ by omega))
      have hb2 := hbel.setCell (p := ⟨Go_, t, none⟩) LE_o (.int .u64 (x : Nat))
      rw [HSET.out] at n_o
      go_wp2_with fail
      go_roundw
      case rel => exact ⟨t + 1, by omega, by go_num, n_r.out, n_x.out, n_y.out, n_z.out, n_o.out, hb2⟩
      case measure => simp [intOf] <;> omega
    · as_aux_lemma =>
      obtain rfl : t = 8 := by omega
      rw [show ((8 : Nat) : Int) = 8 from rfl]
      clear K_z AC MC LT_z
      go_wp2_with fail
      generalize hL0 : tell (dgt (2 ^ 32) c) 8 ++ zeros (16 - 8) = l0 at *
      clear hL0
      go_loopw [12] (fun i wr => ∃ t : Nat, t ≤ 8 ∧ ∃ lp, PrAt a b c t lp ∧ i = .int .i64 t ∧ Blk wr (w.heap.size + 1 + 1 + 1) 122 (natsV .u64 (zeros 16)) ∧ Blk wr G14 26 (natsV .u64 da) ∧ Blk wr G33 26 (natsV .u64 db) ∧ Blk wr Go_ 122 (natsV .u64 lp) ∧ Below w.heap.size w wr) (fun i _ => 8 - (intOf i).toNat)
      case atStart => exact ⟨0, by omega, _, HST.out, rfl, K_r.out, K_x.out, K_y.out, K_o.out, hbel⟩
      case round =>
        clear K_r K_x K_y K_o hbel HST
        obtain ⟨t, ht, lp, hm0, rfl, k_r, k_x, k_y, k_o, hbel⟩ := hrel
        have K_r := Lib.hid k_r
        have K_x := Lib.hid k_x
        have K_y := Lib.hid k_y
        have K_o := Lib.hid k_o
        clear k_r k_x k_y k_o
        have HM := Lib.hid hm0
        clear hm0
        by_cases h8 : t < 8
        · as_aux_lemma =>
          have hti : (t : Int) < 8 := by omega
          have xt := AA.out t h8
          have hd32 := dgt_lt (B := 2 ^ 32) (by decide) a t
          have HRS := Lib.hid (HM.out.rowStart (dgt (2 ^ 32) a t))
          have HCRt := Lib.hid (HCR.out t)
          have HPRt := Lib.hid (HPR.out t)
          clear HCR HPR HDN HM AA
          generalize c + (a % (2 ^ 32) ^ (t + 1)) * b = T1 at *
          generalize c + (a % (2 ^ 32) ^ t) * b = T0 at *
          obtain ⟨d, hd⟩ : ∃ d, d = dgt (2 ^ 32) a t := ⟨_, rfl⟩
          rw [← hd] at xt hd32 HRS HCRt
          clear hd
          go_wp2_with fail
          go_loopw [13, 14] (fun cc jj wr => ∃ s : Nat, s ≤ 8 ∧ ∃ lq cy, RowAt b d t T0 s cy lq ∧ jj = .int .i64 s ∧ cc = .int .u64 (cy : Nat) ∧ Blk wr (w.heap.size + 1 + 1 + 1) 122 (natsV .u64 (zeros 16)) ∧ Blk wr G14 26 (natsV .u64 da) ∧ Blk wr G33 26 (natsV .u64 db) ∧ Blk wr Go_ 122 (natsV .u64 lq) ∧ Below w.heap.size w wr) (fun _ jj _ => 8 - (intOf jj).toNat)
          case atStart => exact ⟨0, by omega, lp, 0, HRS.out, rfl, rfl, K_r.out, K_x.out, K_y.out, K_o.out, hbel⟩
          case round =>
            clear K_r K_x K_y K_o hbel HRS
            obtain ⟨s, hs, lq, cy, hm1, rfl, rfl, k_r, k_x, k_y, k_o, hbel⟩ := hrel
            have K_r := Lib.hid k_r
            have K_x := Lib.hid k_x
            have K_y := Lib.hid k_y
            have K_o := Lib.hid k_o
            clear k_r k_x k_y k_o
            have HM1 := Lib.hid hm1
            have HLQ := Lib.hid hm1.1
            have HLT := Lib.hid hm1.2.1
            have hcy := hm1.2.2.1
            clear hm1
            by_cases hs8 : s < 8
            · as_aux_lemma =>
              have hsi : (s : Int) < 8 := by omega
              obtain ⟨z, hz⟩ : ∃ z, z = d * dgt (2 ^ 32) b s + lq.getD (t + s) 0 + cy := ⟨_, rfl⟩
              obtain ⟨hz64, hn⟩ := HM1.out.next h8 hs8 hd32 z hz
              have HN := Lib.hid hn
              have he := dgt_lt (B := 2 ^ 32) (by decide) b s
              have hpj := getD_lt' HLT.out (by decide) (t + s)
              have hfit := fit32 d (dgt (2 ^ 32) b s) (lq.getD (t + s) 0) cy hd32 he hpj hcy
              have cx := K_x.out.nat t (by rw [MA.out]; exact h8)
              rw [xt] at cx
              have cyy := K_y.out.nat s (by rw [MB.out]; exact hs8)
              rw [AB.out s hs8] at cyy
              clear hn HM1 HCRt HPRt AB HLT
              generalize dgt (2 ^ 32) b s = e at *
              obtain ⟨p, hp⟩ : ∃ p, p = t + s := ⟨_, rfl⟩
              rw [← hp] at HN hpj hz hfit
              have e1 : (t : Int) + (s : Int) = (p : Int) := by omega
              have hp16 : p < 16 := by omega
              have hpi : (p : Int) < 16 := by omega
              clear hp
              have c0 := K_o.out.nat p (by rw [HLQ.out]; exact hp16)
              generalize lq.getD p 0 = pj at *
              obtain ⟨cd, hcd⟩ : ∃ cd, cd = d * e := ⟨_, rfl⟩
              rw [← hcd] at hz hfit
              have em := w_mul d e cd hcd (by rw [hcd]; exact Nat.le_trans (Nat.mul_le_mul (show d ≤ 4294967295 by omega) (show e ≤ 4294967295 from Nat.le_of_lt_succ he)) (by decide))
              have e4 := w_add cd pj (cd + pj) rfl hfit.2.2
              have e5 : IntKind.u64.wrap (((cd + pj : Nat) : Int) + (cy : Int)) = (z : Int) := w_add (cd + pj) cy z hz hz64
              have e6 := r_lo z _ rfl
              have e7 := r_hi z _ rfl
              generalize cd + pj = cp at *
              obtain ⟨zl, hzl⟩ : ∃ x, x = z % 4294967296 := ⟨_, rfl⟩
              obtain ⟨zh, hzh⟩ : ∃ x, x = z / 4294967296 := ⟨_, rfl⟩
              rw [← hzl] at e6 HN
              rw [← hzh] at e7 HN
              have e8 := u64_in zh (by omega)
              clear hzl hzh hz hz64 hcd hfit hpj he
              have Q_r := Lib.hid K_r.out.drew
              have Q_x := Lib.hid K_x.out.drew
              have Q_y := Lib.hid K_y.out.drew
              have Q_o := Lib.hid K_o.out.drew
              have hbelq := hbel.drew
              clear K_r K_x K_y K_o hbel
              go_wp2_with fail
              go_region
              clear cx cyy c0 em e4 e5
              generalize wr.drew = wd at *
              have c0 := Q_o.out.nat p (by rw [HLQ.out]; exact hp16)
              have f0 := Q_o.out.free p
              have K_r := Lib.hid Q_r.out
              have K_x := Lib.hid Q_x.out
              have K_y := Lib.hid Q_y.out
              have K_o := Lib.hid Q_o.out
              have hbel := hbelq
              clear Q_r Q_x Q_y Q_o hbelq
              have n_o := Lib.hid (K_o.out.natSet p zl)
              have n_r := Lib.hid (K_r.out.other ⟨Go_, p, none⟩ (.int .u64 (zl : Nat)) (show (w.heap.size + 1 + 1 + 1) ≠ Go_ by omega))
              have n_x := Lib.hid (K_x.out.other ⟨Go_, p, none⟩ (.int .u64 (zl : Nat)) (show G14 ≠ Go_ by omega))
              have n_y := Lib.hid (K_y.out.other ⟨Go_, p, none⟩ (.int .u64 (zl : Nat)) (show G33 ≠ Go_ by omega))
              have hb2 := hbel.setCell (p := ⟨Go_, p, none⟩) LE_o (.int .u64 (zl : Nat))
              clear K_r K_x K_y K_o hbel
              go_wp2_with fail
              go_roundw
              case rel => exact ⟨s + 1, by omega, _, zh, HN.out, by go_num, rfl, n_r.out, n_x.out, n_y.out, n_o.out, hb2⟩
              case measure => simp [intOf] <;> omega
            · as_aux_lemma =>
              obtain rfl : s = 8 := by omega
              rw [show ((8 : Nat) : Int) = 8 from rfl]
              have HC8 := Lib.hid (HCRt.out cy lq HM1.out)
              clear HM1 HCRt HLT
              obtain ⟨p, hp⟩ : ∃ p, p = t + 8 := ⟨_, rfl⟩
              rw [← hp] at HC8
              have e1 : (t : Int) + 8 = (p : Int) := by omega
              have hp16 : p < 16 := by omega
              have hpi : (p : Int) < 16 := by omega
              clear hp
              go_wp2_with fail
              go_loopw [13, 16] (fun cc kk wr => ∃ k : Nat, k ≤ 16 ∧ ∃ lq cy, CarAt T1 k cy lq ∧ kk = .int .i64 k ∧ cc = .int .u64 (cy : Nat) ∧ Blk wr (w.heap.size + 1 + 1 + 1) 122 (natsV .u64 (zeros 16)) ∧ Blk wr G14 26 (natsV .u64 da) ∧ Blk wr G33 26 (natsV .u64 db) ∧ Blk wr Go_ 122 (natsV .u64 lq) ∧ Below w.heap.size w wr) (fun _ kk _ => 16 - (intOf kk).toNat)
              case atStart => exact ⟨p, by omega, lq, cy, HC8.out, rfl, rfl, K_r.out, K_x.out, K_y.out, K_o.out, hbel⟩
              case round =>
                clear K_r K_x K_y K_o hbel HC8 HLQ
                obtain ⟨k, hk, lq2, cy2, hm2, rfl, rfl, k_r, k_x, k_y, k_o, hbel⟩ := hrel
                have K_r := Lib.hid k_r
                have K_x := Lib.hid k_x
                have K_y := Lib.hid k_y
                have K_o := Lib.hid k_o
                clear k_r k_x k_y k_o
                have HM2 := Lib.hid hm2
                have HLQ := Lib.hid hm2.1
                have HLT := Lib.hid hm2.2.1
                have hcy2 := hm2.2.2.1
                clear hm2
                by_cases hk16 : k < 16
                · have hki : (k : Int) < 16 := by omega
                  by_cases hc0 : cy2 = 0
                  · as_aux_lemma =>
                    subst hc0
                    have HP := Lib.hid (HPRt.out k 0 lq2 HM2.out (Or.inr rfl))
                    go_wp2_with fail
                    go_roundw
                    case rel => exact ⟨t + 1, by omega, lq2, HP.out, by go_num, K_r.out, K_x.out, K_y.out, K_o.out, hbel⟩
                    case measure => simp [intOf] <;> omega
                  · as_aux_lemma =>
                    have hcp : (0 : Int) < (cy2 : Int) := by omega
                    obtain ⟨z, hz⟩ : ∃ z, z = lq2.getD k 0 + cy2 := ⟨_, rfl⟩
                    obtain ⟨hz64, hn⟩ := HM2.out.next hk16 z hz
                    have HN := Lib.hid hn
                    have hpj := getD_lt' HLT.out (by decide) k
                    clear hn HM2 HPRt HLT
                    have c0 := K_o.out.nat k (by rw [HLQ.out]; exact hk16)
                    have f0 := K_o.out.free k
                    generalize lq2.getD k 0 = pj at *
                    have e4 := w_add pj cy2 z hz (by omega)
                    have e6 := r_lo z _ rfl
                    have e7 := r_hi z _ rfl
                    obtain ⟨zl, hzl⟩ : ∃ x, x = z % 4294967296 := ⟨_, rfl⟩
                    obtain ⟨zh, hzh⟩ : ∃ x, x = z / 4294967296 := ⟨_, rfl⟩
                    rw [← hzl] at e6 HN
                    rw [← hzh] at e7 HN
                    have e8 := u64_in zh (by omega)
                    clear hzl hzh hz hz64 hpj
                    have n_o := Lib.hid (K_o.out.natSet k zl)
                    have n_r := Lib.hid (K_r.out.other ⟨Go_, k, none⟩ (.int .u64 (zl : Nat)) (show (w.heap.size + 1 + 1 + 1) ≠ Go_ by omega))
                    have n_x := Lib.hid (K_x.out.other ⟨Go_, k, none⟩ (.int .u64 (zl : Nat)) (show G14 ≠ Go_ by omega))
                    have n_y := Lib.hid (K_y.out.other ⟨Go_, k, none⟩ (.int .u64 (zl : Nat)) (show G33 ≠ Go_ by omega))
                    have hb2 := hbel.setCell (p := ⟨Go_, k, none⟩) LE_o (.int .u64 (zl : Nat))
                    clear K_r K_x K_y K_o hbel
                    go_wp2_with fail
                    go_roundw
                    case rel => exact ⟨k + 1, by omega, _, zh, HN.out, by go_num, rfl, n_r.out, n_x.out, n_y.out, n_o.out, hb2⟩
                    case measure => simp [intOf] <;> omega
                · as_aux_lemma =>
                  obtain rfl : k = 16 := by omega
                  rw [show ((16 : Nat) : Int) = 16 from rfl]
                  have HP := Lib.hid (HPRt.out 16 cy2 lq2 HM2.out (Or.inl rfl))
                  go_wp2_with fail
                  go_roundw
                  case rel => exact ⟨t + 1, by omega, lq2, HP.out, by go_num, K_r.out, K_x.out, K_y.out, K_o.out, hbel⟩
                  case measure => simp [intOf] <;> omega
        · as_aux_lemma =>
          obtain rfl : t = 8 := by omega
          rw [show ((8 : Nat) : Int) = 8 from rfl]
          have HE := HDN.out lp HM.out
          subst HE
          have j3 := K_r.out.setRow (natsV .u64 lp)
          have hb2 := below_setRow' hbel (show w.heap.size ≤ w.heap.size + 1 + 1 + 1 by omega) (natsV .u64 lp).toArray
          go_wp2_with (first | (refine ld122 rfl (.tmp 10) rfl Go_ rfl lp K_o.out LR.out ?_) | (refine st122 rfl (.tmp 6) (.tmp 85) rfl (w.heap.size + 1 + 1 + 1) rfl lp rfl LR.out (zeros 16) K_r.out rfl ?_))
          refine bodyPost_ret (v := .agg (natsV .u64 lp).toArray) ?_ rfl ⟨rfl, hb2⟩
          exact ret122 Try.results103 _ _ (w.heap.size + 1 + 1 + 1) lp rfl j3 LR.out
end Go.Proofs.Ytfffmoolkgheaaa
