/- The document's digits to the base 2^32, and numbers out of them. No condition. -/
import Derived.Test.YtfaoajljaggklaaSp
import Derived.Test.YtfaoajljaggklaaRm
import Derived.Test.YtfaoajljaggklaaLs
namespace Go.Proofs.Ytfaoajljaggklaa
open Go.RowKit
set_option linter.unusedVariables false
set_option linter.unusedSimpArgs false
theorem info78 : (Try.prog.info? 78).map (·.size) = some 16 := by kernel_rfl
section
variable {w : World} {ops : Array Oper} {rest : List Oper} {o : Oper} {a : Act} {Q : Exit → Act → World → Prop}
theorem ld78 (hgd : o.guard = none) (x : Operand) (ho : o.op = .load 78 x) (g : Nat) (hx : a.eval x = .pointer (some ⟨g, 0, none⟩)) (l : List Nat) (hg : Blk w g 78 (natsV .u64 l)) (hl : l.length = 16)
    (h : wpList Try.prog ops Q rest (a.put o.dst (.agg (natsV .u64 l).toArray)) w) : wpList Try.prog ops Q (o :: rest) a w :=
  wpList_load_row hgd 78 x ho g hx 78 (natsV .u64 l).toArray (0, 0) _ hg Try.underlying78 rfl (by rw [info78, size_nats, hl]) h
theorem st78 (hgd : o.guard = none) (x y : Operand) (ho : o.op = .store 78 x y) (g : Nat) (hx : a.eval x = .pointer (some ⟨g, 0, none⟩)) (l : List Nat) (hy : a.eval y = .agg (natsV .u64 l).toArray) (hl : l.length = 16) (old : List Nat) (hg : Blk w g 78 (natsV .u64 old)) (ho4 : old.length = 16)
    (h : wpList Try.prog ops Q rest (a.put o.dst undef) (w.setRow g (natsV .u64 l).toArray)) : wpList Try.prog ops Q (o :: rest) a w :=
  wpList_store_row hgd 78 x y ho g (natsV .u64 l).toArray hx hy 78 (natsV .u64 old).toArray hg (by rw [info78, size_nats, hl]) (by rw [size_nats, size_nats, hl, ho4]) (all_nats _ _) h
end
theorem ret78 {fn : Func} {p : Tmp} (h : fn.results = #[.cell p 78]) (tmps : Array Value) (w : World) (g : Nat) (l : List Nat) (hp : tmps.getD p undef = .pointer (some ⟨g, 0, none⟩)) (hg : Blk w g 78 (natsV .u64 l)) (hl : l.length = 16) :
    (results fn tmps).run Try.prog w = .ok (.agg (natsV .u64 l).toArray) w :=
  results_cell_row h tmps w g 78 _ (0, 0) _ hp hg Try.underlying78 rfl (by rw [info78, size_nats, hl])
theorem ret26 {fn : Func} {p : Tmp} (h : fn.results = #[.cell p 26]) (tmps : Array Value) (w : World) (g : Nat) (l : List Nat) (hp : tmps.getD p undef = .pointer (some ⟨g, 0, none⟩)) (hg : Blk w g 26 (natsV .u64 l)) (hl : l.length = 8) :
    (results fn tmps).run Try.prog w = .ok (.agg (natsV .u64 l).toArray) w :=
  results_cell_row h tmps w g 26 _ (0, 0) _ hp hg Try.underlying26 rfl (by rw [info26, size_nats, hl])
/-- the digits of v to the base 2^32 -/
def hds (n v : Nat) : List Nat := tell (dgt (2 ^ 32) v) n
theorem hds_len (n v : Nat) : (hds n v).length = n := tell_length _ _
theorem hds_at (n v i : Nat) (h : i < n) : (hds n v).getD i 0 = dgt (2 ^ 32) v i := tell_getD _ _ _ h
theorem r_lo (x p : Nat) (h : p = x % 4294967296) : (x : Int) % 4294967296 = (p : Int) := by omega
theorem r_hi (x p : Nat) (h : p = x / 4294967296) : (x : Int) / 4294967296 = (p : Int) := by omega
set_option maxRecDepth 100000 in
set_option maxHeartbeats 800000 in
theorem digits_any5 (X : Nat) (w : World) : Calls Try.prog 77 #[.agg (natsV .u64 (wds 4 X)).toArray] w fun e w' => e = .returned (.agg (natsV .u64 (hds 8 X)).toArray) ∧ Below w.heap.size w w' := by
  have LX := Lib.hid (wds_len 4 X)
  have AX := Lib.hid (wds_at 4 X)
  have LH := Lib.hid (hds_len 8 X)
  have HE := Lib.hid (show tell (dgt (2 ^ 32) X) (2 * 4) ++ zeros (8 - 2 * 4) = hds 8 X by simp [zeros, hds])
  generalize hds 8 X = lh at *
  generalize wds 4 X = lx at *
  have B1 := Lib.hid (((Blk.new w 24 (natsV .u64 lx)).alloc (.cells (natsV .u64 (zeros 8)).toArray 26)).alloc (.cells (natsV .u64 (zeros 8)).toArray 26))
  have B2 := Lib.hid ((Blk.new2 w (.cells (natsV .u64 lx).toArray 24) 26 (natsV .u64 (zeros 8))).alloc (.cells (natsV .u64 (zeros 8)).toArray 26))
  have B3 := Lib.hid (Blk.new3 w (.cells (natsV .u64 lx).toArray 24) (.cells (natsV .u64 (zeros 8)).toArray 26) 26 (natsV .u64 (zeros 8)))
  have BEL := Lib.hid ((((Below.refl w.heap.size w).alloc (Nat.le_refl _) (.cells (natsV .u64 lx).toArray 24)).alloc (by simp) (.cells (natsV .u64 (zeros 8)).toArray 26)).alloc (by simp; omega) (.cells (natsV .u64 (zeros 8)).toArray 26))
  go_enter Try.func77, Try.ntmps77
  go_wp2_with fail
  go_loopw [4] (fun i wr => ∃ t : Nat, t ≤ 4 ∧ i = .int .i64 t ∧ Blk wr w.heap.size 24 (natsV .u64 lx) ∧ Blk wr (w.heap.size + 1) 26 (natsV .u64 (zeros 8)) ∧ Blk wr (w.heap.size + 1 + 1) 26 (natsV .u64 (tell (dgt (2 ^ 32) X) (2 * t) ++ zeros (8 - 2 * t))) ∧ Below w.heap.size w wr) (fun i _ => 4 - (intOf i).toNat)
  case atStart => exact ⟨0, by omega, rfl, B1.out, B2.out, B3.out, BEL.out⟩
  case round =>
    clear B1 B2 B3 BEL
    obtain ⟨t, ht, rfl, k1, k2, k3, hbel⟩ := hrel
    have K1 := Lib.hid k1
    have K2 := Lib.hid k2
    have K3 := Lib.hid k3
    clear k1 k2 k3
    by_cases hs : t < 4
    · as_aux_lemma =>
      have hti : (t : Int) < 4 := by omega
      have xt := AX.out t hs
      have c0 := K1.out.nat t (by rw [LX.out]; exact hs)
      rw [xt] at c0
      have hlo := half_lo X t
      have hhi := half_hi X t
      have hset : ((tell (dgt (2 ^ 32) X) (2 * t) ++ zeros (8 - 2 * t)).set (2 * t) (dgt (2 ^ 32) X (2 * t))).set (2 * t + 1) (dgt (2 ^ 32) X (2 * t + 1)) = tell (dgt (2 ^ 32) X) (2 * (t + 1)) ++ zeros (8 - 2 * (t + 1)) := by
        rw [fill_tell _ 8 (2 * t) (by omega), fill_tell _ 8 (2 * t + 1) (by omega)]
        rfl
      have hlen : (tell (dgt (2 ^ 32) X) (2 * t) ++ zeros (8 - 2 * t)).length = 8 := by simp [tell_length, zeros]; omega
      have e1 := r_lo (dgt (2 ^ 64) X t) _ hlo.symm
      have e2 := r_hi (dgt (2 ^ 64) X t) _ hhi.symm
      have e3 := u64_in (dgt (2 ^ 32) X (2 * t + 1)) (Nat.lt_trans (dgt_lt (B := 2 ^ 32) (by decide) X (2 * t + 1)) (by decide))
      have HSET := Lib.hid hset
      have LXo := LX.out
      clear hset hlo hhi AX
      generalize dgt (2 ^ 32) X (2 * t + 1) = hi at *
      generalize dgt (2 ^ 32) X (2 * t) = lo at *
      generalize dgt (2 ^ 64) X t = x at *
      obtain ⟨p, hp⟩ : ∃ p, p = 2 * t := ⟨_, rfl⟩
      rw [← hp] at HSET K3 hlen
      obtain ⟨q, hq⟩ : ∃ q, q = p + 1 := ⟨_, rfl⟩
      rw [← hq] at HSET
      generalize tell (dgt (2 ^ 32) X) p ++ zeros (8 - p) = lc at *
      have i1 : 2 * (t : Int) = (p : Int) := by omega
      have i2 : (p : Int) + 1 = (q : Int) := by omega
      have hp0 : (p : Int) < 8 := by omega
      have hq0 : (q : Int) < 8 := by omega
      have hpi : (p : Nat) < 8 := by omega
      have hqi : (q : Nat) < 8 := by omega
      have d0 := K3.out.nat p (by rw [hlen]; exact hpi)
      have f0 := K3.out.free p
      have k3 := Lib.hid (K3.out.natSet p lo)
      have d1 := k3.out.nat q (by rw [List.length_set, hlen]; exact hqi)
      have f1 := k3.out.free q
      have m3 := Lib.hid (k3.out.natSet q hi)
      rw [HSET.out] at m3
      have k1 := Lib.hid (K1.out.other ⟨w.heap.size + 1 + 1, p, none⟩ (.int .u64 (lo : Nat)) (by simp; omega))
      have c1 := k1.out.nat t (by rw [LXo]; exact hs)
      rw [xt] at c1
      have k2 := Lib.hid (K2.out.other ⟨w.heap.size + 1 + 1, p, none⟩ (.int .u64 (lo : Nat)) (by simp))
      have m1 := Lib.hid (k1.out.other ⟨w.heap.size + 1 + 1, q, none⟩ (.int .u64 (hi : Nat)) (by simp; omega))
      have m2 := Lib.hid (k2.out.other ⟨w.heap.size + 1 + 1, q, none⟩ (.int .u64 (hi : Nat)) (by simp))
      have hb1 := hbel.setCell (p := ⟨w.heap.size + 1 + 1, p, none⟩) (by simp; omega) (.int .u64 (lo : Nat))
      have hb2 := hb1.setCell (p := ⟨w.heap.size + 1 + 1, q, none⟩) (by simp; omega) (.int .u64 (hi : Nat))
      clear hp hq HSET LXo
      go_wp2_with fail
      go_roundw
      case rel => exact ⟨t + 1, by omega, by go_num, m1.out, m2.out, m3.out, hb2⟩
      case measure => simp [intOf] <;> omega
    · obtain rfl : t = 4 := by omega
      rw [show ((4 : Nat) : Int) = 4 from rfl]
      rw [HE.out] at K3
      have j2 := K2.out.setRow (natsV .u64 lh)
      have hb2 := below_setRow' hbel (show w.heap.size ≤ w.heap.size + 1 by omega) (natsV .u64 lh).toArray
      go_wp2_with (first | (refine ld26 rfl (.tmp 3) rfl (w.heap.size + 1 + 1) rfl lh K3.out LH.out ?_) | (refine st26 rfl (.tmp 2) (.tmp 24) rfl (w.heap.size + 1) rfl lh rfl LH.out (zeros 8) K2.out rfl ?_))
      refine bodyPost_ret (v := .agg (natsV .u64 lh).toArray) ?_ rfl ⟨rfl, hb2⟩
      exact ret26 Try.results77 _ _ (w.heap.size + 1) lh rfl j2 LH.out
theorem hdg_div (V f i : Nat) : dgt (2 ^ 32) (V / (2 ^ 32) ^ f) i = dgt (2 ^ 32) V (f + i) := by
  unfold dgt; rw [Nat.div_div_eq_div_mul, Nat.pow_add]
set_option maxRecDepth 100000 in
set_option maxHeartbeats 800000 in
theorem number_any5 (V f : Nat) (w : World) (hf : f ≤ 8) : Calls Try.prog 61 #[.agg (natsV .u64 (hds 16 V)).toArray, .int .i64 (f : Nat)] w fun e w' => e = .returned (.agg (natsV .u64 (wds 4 (V / (2 ^ 32) ^ f))).toArray) ∧ Below w.heap.size w w' := by
  have LV := Lib.hid (hds_len 16 V)
  have AV := Lib.hid (hds_at 16 V)
  have HD := Lib.hid (fun i => hdg_div V f i)
  have LW := Lib.hid (wds_len 4 (V / (2 ^ 32) ^ f))
  have HLV := Lib.hid (show tell (dgt (2 ^ 64) (V / (2 ^ 32) ^ f)) 4 ++ zeros (4 - 4) = wds 4 (V / (2 ^ 32) ^ f) by simp [zeros, wds])
  generalize wds 4 (V / (2 ^ 32) ^ f) = lv at *
  generalize V / (2 ^ 32) ^ f = U at *
  generalize hds 16 V = lV at *
  have B1 := Lib.hid (((Blk.new w 78 (natsV .u64 lV)).alloc (.cells (natsV .u64 (zeros 4)).toArray 24)).alloc (.cells (natsV .u64 (zeros 4)).toArray 24))
  have B2 := Lib.hid ((Blk.new2 w (.cells (natsV .u64 lV).toArray 78) 24 (natsV .u64 (zeros 4))).alloc (.cells (natsV .u64 (zeros 4)).toArray 24))
  have B3 := Lib.hid (Blk.new3 w (.cells (natsV .u64 lV).toArray 78) (.cells (natsV .u64 (zeros 4)).toArray 24) 24 (natsV .u64 (zeros 4)))
  have BEL := Lib.hid ((((Below.refl w.heap.size w).alloc (Nat.le_refl _) (.cells (natsV .u64 lV).toArray 78)).alloc (by simp) (.cells (natsV .u64 (zeros 4)).toArray 24)).alloc (by simp; omega) (.cells (natsV .u64 (zeros 4)).toArray 24))
  go_enter Try.func61, Try.ntmps61
  go_wp2_with fail
  go_loopw [6] (fun i wr => ∃ t : Nat, t ≤ 4 ∧ i = .int .i64 t ∧ Blk wr w.heap.size 78 (natsV .u64 lV) ∧ Blk wr (w.heap.size + 1) 24 (natsV .u64 (zeros 4)) ∧ Blk wr (w.heap.size + 1 + 1) 24 (natsV .u64 (tell (dgt (2 ^ 64) U) t ++ zeros (4 - t))) ∧ Below w.heap.size w wr) (fun i _ => 4 - (intOf i).toNat)
  case atStart => exact ⟨0, by omega, rfl, B1.out, B2.out, B3.out, BEL.out⟩
  case round =>
    clear B1 B2 B3 BEL
    obtain ⟨t, ht, rfl, k1, k2, k3, hbel⟩ := hrel
    have K1 := Lib.hid k1
    have K2 := Lib.hid k2
    have K3 := Lib.hid k3
    clear k1 k2 k3
    by_cases hs : t < 4
    · as_aux_lemma =>
      have hti : (t : Int) < 4 := by omega
      have c0 := K1.out.nat (f + 2 * t) (by rw [LV.out]; omega)
      have c1 := K1.out.nat (f + (2 * t + 1)) (by rw [LV.out]; omega)
      rw [AV.out _ (by omega), ← HD.out] at c0 c1
      have h0 := dgt_lt (B := 2 ^ 32) (by decide) U (2 * t)
      have h1 := dgt_lt (B := 2 ^ 32) (by decide) U (2 * t + 1)
      have hof := half_of U t
      have hset := fill_tell (dgt (2 ^ 64) U) 4 t hs
      have hlen : (tell (dgt (2 ^ 64) U) t ++ zeros (4 - t)).length = 4 := by simp [tell_length, zeros]; omega
      have HSET := Lib.hid hset
      clear hset HD AV HLV
      generalize dgt (2 ^ 32) U (2 * t) = lo at *
      generalize dgt (2 ^ 32) U (2 * t + 1) = hi at *
      generalize dgt (2 ^ 64) U t = x at *
      generalize tell (dgt (2 ^ 64) U) t ++ zeros (4 - t) = lc at *
      obtain ⟨r, hr⟩ : ∃ r, r = 2 * t := ⟨_, rfl⟩
      obtain ⟨p, hp⟩ : ∃ p, p = f + 2 * t := ⟨_, rfl⟩
      obtain ⟨q, hq⟩ : ∃ q, q = f + (2 * t + 1) := ⟨_, rfl⟩
      rw [← hp] at c0
      rw [← hq] at c1
      have i0 : 2 * (t : Int) = (r : Int) := by omega
      have i1 : (f : Int) + (r : Int) = (p : Int) := by omega
      have i2 : (p : Int) + 1 = (q : Int) := by omega
      have hp8 : (p : Int) < 16 := by omega
      have hq8 : (q : Int) < 16 := by omega
      obtain ⟨tw, htw⟩ : ∃ t, t = 4294967296 * hi := ⟨_, rfl⟩
      have etw : IntKind.u64.wrap ((hi : Int) * 4294967296) = (tw : Int) := by rw [IntKind.wrap_u64]; omega
      have eor : IntKind.u64.wrap ((lo : Int) + (tw : Int)) = (x : Int) := by rw [IntKind.wrap_u64]; omega
      have d0 := K3.out.nat t (by rw [hlen]; exact hs)
      have f0 := K3.out.free t
      have n3 := Lib.hid (K3.out.natSet t x)
      rw [HSET.out] at n3
      have n1 := Lib.hid (K1.out.other ⟨w.heap.size + 1 + 1, t, none⟩ (.int .u64 (x : Nat)) (by simp; omega))
      have n2 := Lib.hid (K2.out.other ⟨w.heap.size + 1 + 1, t, none⟩ (.int .u64 (x : Nat)) (by simp))
      have hb2 := hbel.setCell (p := ⟨w.heap.size + 1 + 1, t, none⟩) (by simp; omega) (.int .u64 (x : Nat))
      clear hp hq hr htw HSET
      go_wp2_with fail
      go_region
      go_wp2_with fail
      go_roundw
      case rel => exact ⟨t + 1, by omega, by go_num, n1.out, n2.out, n3.out, hb2.drew⟩
      case measure => simp [intOf] <;> omega
    · obtain rfl : t = 4 := by omega
      rw [show ((4 : Nat) : Int) = 4 from rfl]
      rw [HLV.out] at K3
      have j2 := K2.out.setRow (natsV .u64 lv)
      have hb2 := below_setRow' hbel (show w.heap.size ≤ w.heap.size + 1 by omega) (natsV .u64 lv).toArray
      go_wp2_with (first | (refine ld24 rfl (.tmp 5) rfl (w.heap.size + 1 + 1) rfl lv K3.out LW.out ?_) | (refine st24 rfl (.tmp 4) (.tmp 28) rfl (w.heap.size + 1) rfl lv rfl LW.out (zeros 4) K2.out rfl ?_))
      refine bodyPost_ret (v := .agg (natsV .u64 lv).toArray) ?_ rfl ⟨rfl, hb2⟩
      exact ret24 Try.results61 _ _ (w.heap.size + 1) lv rfl j2 LW.out
/-- the halves behind a row, k places of the carry's way done -/
def CarAt (T k cy : Nat) (l : List Nat) : Prop := l.length = 16 ∧ (∀ y ∈ l, y < 2 ^ 32) ∧ cy < 2 ^ 32 ∧ val (2 ^ 32) l + (2 ^ 32) ^ k * cy = T
theorem CarAt.next {T k cy : Nat} {l : List Nat} (h : CarAt T k cy l) (hk : k < 16) (s : Nat) (hs : s = l.getD k 0 + cy) :
    s < 8589934592 ∧ CarAt T (k + 1) (s / 4294967296) (l.set k (s % 4294967296)) := by
  obtain ⟨h1, h2, h3, h4⟩ := h
  have hp := getD_lt' h2 (by decide) k
  refine ⟨by omega, by rw [List.length_set]; exact h1, set_lt h2 (Nat.mod_lt _ (by decide)), by omega, ?_⟩
  have hset := val_set (2 ^ 32) l k (s % 4294967296) (by rw [h1]; exact hk)
  have hmd := Nat.mod_add_div s 4294967296
  have e1 : (2 ^ 32) ^ (k + 1) * (s / 4294967296) = (2 ^ 32) ^ k * (4294967296 * (s / 4294967296)) := by
    have ep : (2 ^ 32) ^ (k + 1) = (2 ^ 32) ^ k * 4294967296 := Nat.pow_succ _ _
    rw [ep, Nat.mul_assoc]
  have h5 : (2 ^ 32) ^ k * (s % 4294967296 + 4294967296 * (s / 4294967296)) = (2 ^ 32) ^ k * (l.getD k 0 + cy) := by rw [hmd, hs]
  rw [Nat.mul_add, Nat.mul_add] at h5
  rw [e1]
  omega
theorem CarAt.done {T k cy : Nat} {l : List Nat} (h : CarAt T k cy l) (hT : T < (2 ^ 32) ^ 16) (hk : k = 16 ∨ cy = 0) : l.length = 16 ∧ (∀ y ∈ l, y < 2 ^ 32) ∧ val (2 ^ 32) l = T := by
  obtain ⟨h1, h2, h3, h4⟩ := h
  refine ⟨h1, h2, ?_⟩
  rcases hk with rfl | rfl
  · rcases Nat.eq_zero_or_pos cy with h0 | h0
    · rw [h0, Nat.mul_zero, Nat.add_zero] at h4; exact h4
    · exfalso
      have := Nat.le_mul_of_pos_right ((2 ^ 32) ^ 16) h0
      omega
  · rw [Nat.mul_zero, Nat.add_zero] at h4; exact h4
/-- the halves, i rows done -/
def PrAt (a b c i : Nat) (l : List Nat) : Prop := l.length = 16 ∧ (∀ y ∈ l, y < 2 ^ 32) ∧ val (2 ^ 32) l = c + (a % (2 ^ 32) ^ i) * b
theorem PrAt.start (a b c : Nat) (hc : c < 2 ^ 256) : PrAt a b c 0 (tell (dgt (2 ^ 32) c) 8 ++ zeros (16 - 8)) := by
  refine ⟨by simp [tell_length, zeros], fun y hy => ?_, ?_⟩
  · rcases List.mem_append.1 hy with h | h
    · exact tell_lt _ _ (fun i => dgt_lt (by decide) c i) 8 y h
    · rw [List.eq_of_mem_replicate h]; decide
  · rw [val_append, val_tell, val_zeros, Nat.mod_eq_of_lt (show c < (2 ^ 32) ^ 8 by rw [← Nat.pow_mul]; exact hc)]
    simp [Nat.mod_one]
theorem PrAt.rowStart {a b c i : Nat} {l : List Nat} (h : PrAt a b c i l) (d : Nat) : RowAt b d i (c + (a % (2 ^ 32) ^ i) * b) 0 0 l :=
  ⟨h.1, h.2.1, by decide, by rw [h.2.2]; simp [Nat.mod_one]⟩
theorem RowAt.carry {a b c i cy : Nat} {l : List Nat} (hb : b < 2 ^ 256) (h : RowAt b (dgt (2 ^ 32) a i) i (c + (a % (2 ^ 32) ^ i) * b) 8 cy l) : CarAt (c + (a % (2 ^ 32) ^ (i + 1)) * b) (i + 8) cy l := by
  obtain ⟨h1, h2, h3, h4⟩ := h
  refine ⟨h1, h2, h3, ?_⟩
  rw [h4, Nat.mod_eq_of_lt (show b < (2 ^ 32) ^ 8 by rw [← Nat.pow_mul]; exact hb), mod_pow_succ, Nat.add_mul, Nat.add_assoc]
  congr 2
  rw [Nat.mul_assoc]
theorem PrAt.lt {a b c i : Nat} (ha : a < 2 ^ 256) (hb : b < 2 ^ 256) (hc : c < 2 ^ 256) : c + (a % (2 ^ 32) ^ i) * b < (2 ^ 32) ^ 16 := by
  have h1 : a % (2 ^ 32) ^ i ≤ 2 ^ 256 - 1 := by have := Nat.mod_le a ((2 ^ 32) ^ i); omega
  have h2 := Nat.mul_le_mul h1 (show b ≤ 2 ^ 256 - 1 by omega)
  have h3 : (2 ^ 256 - 1) * (2 ^ 256 - 1) + (2 ^ 256 - 1) < (2 ^ 32) ^ 16 := by decide +kernel
  omega
theorem CarAt.pr {a b c i k cy : Nat} {l : List Nat} (ha : a < 2 ^ 256) (hb : b < 2 ^ 256) (hc : c < 2 ^ 256) (h : CarAt (c + (a % (2 ^ 32) ^ (i + 1)) * b) k cy l) (hk : k = 16 ∨ cy = 0) : PrAt a b c (i + 1) l :=
  h.done (PrAt.lt ha hb hc) hk
theorem PrAt.done {a b c : Nat} {l : List Nat} (h : PrAt a b c 8 l) (ha : a < 2 ^ 256) : l = hds 16 (a * b + c) := by
  obtain ⟨h1, h2, h3⟩ := h
  rw [Nat.mod_eq_of_lt (show a < (2 ^ 32) ^ 8 by rw [← Nat.pow_mul]; exact ha)] at h3
  have := tell_val (B := 2 ^ 32) (by decide) l h2
  rw [h1, h3, Nat.add_comm] at this
  exact this.symm
end Go.Proofs.Ytfaoajljaggklaa
