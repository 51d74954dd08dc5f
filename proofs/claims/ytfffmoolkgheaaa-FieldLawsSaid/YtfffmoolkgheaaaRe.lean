/- The project's reduction: what it is handed, divided by 2^256 modulo the prime. Condition: it is less than the prime times 2^256. -/
import Derived.Test.YtfffmoolkgheaaaRm
import Derived.Test.YtfffmoolkgheaaaSp
import Derived.Test.YtfffmoolkgheaaaFa
import Derived.Test.YtfffmoolkgheaaaSu
import Derived.Test.YtfffmoolkgheaaaDv
namespace Go.Proofs.Ytfffmoolkgheaaa
open Go.RowKit
set_option linter.unusedVariables false
set_option linter.unusedSimpArgs false
theorem below_of_grown {g : Nat} {w0 w w' : World} (h : Below w0.heap.size w0 w) (hg : w.grownBy w' (some g)) (hB : w0.heap.size ≤ g) : Below w0.heap.size w0 w' :=
  ⟨hg.os.trans h.os, hg.tape.trans h.tape, hg.output.trans h.output, Nat.le_trans h.size hg.size, fun k hk => (hg.block k (Nat.lt_of_lt_of_le hk h.size) (by simp; omega)).trans (h.block k hk)⟩
theorem Blk.new5 (w : World) (o p q r : Obj) (t : TypeId) (cs : List Value) : Blk (((((w.alloc o).alloc p).alloc q).alloc r).alloc (.cells cs.toArray t)) (w.heap.size + 1 + 1 + 1 + 1) t cs := by
  have := Blk.new4 (w.alloc o) p q r t cs
  have e : (w.alloc o).heap.size = w.heap.size + 1 := by simp
  rw [e] at this; exact this
theorem info139 : (Try.prog.info? 139).map (·.size) = some 8 := by kernel_rfl
theorem info138 : (Try.prog.info? 138).map (·.size) = some 16 := by kernel_rfl
theorem info65r : (Try.prog.info? 77).map (·.size) = some 1 := by kernel_rfl
theorem u32_mul (x y p : Nat) (h : p = x * y % 4294967296) : IntKind.u32.wrap ((x : Int) * (y : Int)) = (p : Int) := by
  rw [IntKind.wrap_u32, ← Int.natCast_mul]; omega
theorem ow_le (over : Nat) (h : over ≤ 1) : IntKind.i64.wrap (over : Int) = (over : Int) := IntWalk.i64_in _ (by omega)
set_option maxRecDepth 100000 in
set_option maxHeartbeats 1600000 in
theorem reduce_any (m f v X : Nat) (w : World) (H : Fld m f v) (hX : X < m * 2 ^ 256) :
    Calls Try.prog 102 #[.agg (primL (wds 4 m) f).toArray, .agg (natsV .u64 (wds 8 X)).toArray] w fun e w' => e = .returned (.agg (natsV .u64 (wds 4 (ofF m v X))).toArray) ∧ Below w.heap.size w w' := by
  have hXX : X < (2 ^ 32) ^ 16 := by
    have h1 : m * 2 ^ 256 ≤ 2 ^ 256 * 2 ^ 256 := Nat.mul_le_mul_right _ (Nat.le_of_lt H.lt)
    have h2 : (2 ^ 32) ^ 16 = 2 ^ 256 * 2 ^ 256 := by decide +kernel
    omega
  have LX := Lib.hid (wds_len 8 X)
  have AX := Lib.hid (wds_at 8 X)
  have LM := Lib.hid (wds_len 4 m)
  have AM := Lib.hid (wds_at 4 m)
  have LP := Lib.hid (primL_len (wds 4 m) f (wds_len 4 m))
  have LD := Lib.hid (tell_length (dgt (2 ^ 32) m) 8)
  have AD := Lib.hid (fun i (h : i < 8) => tell_getD (dgt (2 ^ 32) m) 8 i h)
  have HST := Lib.hid (RedAt.start m X hXX)
  have HH := Lib.hid H
  have HDONE := Lib.hid (fun over l (h : RedAt m X 8 over l) => h.done H hX)
  have LO := Lib.hid (wds_len 4 (ofF m v X))
  have HOF : X * v % m = ofF m v X := rfl
  obtain ⟨lr, hlr⟩ : ∃ l, l = wds 4 (ofF m v X) := ⟨_, rfl⟩
  rw [← hlr] at LO ⊢
  have hm := H.lt
  have hfl := H.fl
  generalize ofF m v X = ro at *
  generalize wds 8 X = lx at *
  obtain ⟨lm, hlm⟩ : ∃ l, l = wds 4 m := ⟨_, rfl⟩
  rw [← hlm] at LM AM LP
  have HBL := Lib.hid (fun x over w (hx : x < 2 ^ 256) (h2 : x + 2 ^ 256 * over < 2 * m) (ho : over ≤ 1) => below_any m f x over w hm hx h2 ho)
  rw [← hlm] at HBL ⊢
  clear hlm
  obtain ⟨ld, hld⟩ : ∃ l, l = tell (dgt (2 ^ 32) m) 8 := ⟨_, rfl⟩
  rw [← hld] at LD AD
  have HLD := Lib.hid hld
  clear hld hX hXX H
  have B1 := Lib.hid (((((Blk.new w 83 (primL lm f)).alloc (.cells (natsV .u64 lx).toArray 26)).alloc (.cells (natsV .u64 (zeros 4)).toArray 24)).alloc (.cells (natsV .u32 (zeros 16)).toArray 138)).alloc (.cells (natsV .u32 (zeros 8)).toArray 139))
  have B2 := Lib.hid ((((Blk.new2 w (.cells (primL lm f).toArray 83) 26 (natsV .u64 lx)).alloc (.cells (natsV .u64 (zeros 4)).toArray 24)).alloc (.cells (natsV .u32 (zeros 16)).toArray 138)).alloc (.cells (natsV .u32 (zeros 8)).toArray 139))
  have B3 := Lib.hid (((Blk.new3 w (.cells (primL lm f).toArray 83) (.cells (natsV .u64 lx).toArray 26) 24 (natsV .u64 (zeros 4))).alloc (.cells (natsV .u32 (zeros 16)).toArray 138)).alloc (.cells (natsV .u32 (zeros 8)).toArray 139))
  have B4 := Lib.hid ((Blk.new4 w (.cells (primL lm f).toArray 83) (.cells (natsV .u64 lx).toArray 26) (.cells (natsV .u64 (zeros 4)).toArray 24) 138 (natsV .u32 (zeros 16))).alloc (.cells (natsV .u32 (zeros 8)).toArray 139))
  have B5 := Lib.hid (Blk.new5 w (.cells (primL lm f).toArray 83) (.cells (natsV .u64 lx).toArray 26) (.cells (natsV .u64 (zeros 4)).toArray 24) (.cells (natsV .u32 (zeros 16)).toArray 138) 139 (natsV .u32 (zeros 8)))
  have BEL := Lib.hid ((((((Below.refl w.heap.size w).alloc (Nat.le_refl _) (.cells (primL lm f).toArray 83)).alloc (by simp) (.cells (natsV .u64 lx).toArray 26)).alloc (by simp; omega) (.cells (natsV .u64 (zeros 4)).toArray 24)).alloc (by simp; omega) (.cells (natsV .u32 (zeros 16)).toArray 138)).alloc (by simp; omega) (.cells (natsV .u32 (zeros 8)).toArray 139))
  go_enter Try.func102, Try.ntmps102
  go_wp2_with fail
  refine wp_region_held_drew (S := (fun _ => True)) (by kernel_rfl) trivial (fun hHeld => ?_)
  refine wpAnyH_take (i := 0) (oi := _) (v := _) rfl (by kernel_rfl) (by kernel_rfl) (by kernel_rfl) (fun _ _ _ h => h) (Or.inl ⟨by rfl, by intro w hSw; (try dsimp only at hSw); go_simp; first | done | with_reducible rfl⟩) hHeld ?_
  try simp only [Act.put, List.getElem_toArray, List.getElem_cons_succ, List.getElem_cons_zero, List.setIfInBounds_toArray, List.set_cons_zero, List.set_cons_succ]
  refine wpAnyH_take (i := 1) (oi := _) (v := _) rfl (by kernel_rfl) (by kernel_rfl) (by kernel_rfl) (fun _ _ _ h => h) (Or.inl ⟨by rfl, by intro w hSw; (try dsimp only at hSw); go_simp; first | done | with_reducible rfl⟩) hHeld ?_
  try simp only [Act.put, List.getElem_toArray, List.getElem_cons_succ, List.getElem_cons_zero, List.setIfInBounds_toArray, List.set_cons_zero, List.set_cons_succ]
  refine wpAnyH_ready (rs := [2]) (by kernel_rfl) (by simp) ?_
  refine AllReadyH.cons (o := _) rfl (fun K hK => ?_) AllReadyH.nil
  go_simp
  go_at_call 126
  refine (split_any 138 8 (w.heap.size + 1 + 1 + 1) (w.heap.size + 1) X _ (by omega) B4.out.drew (by omega) B2.out.drew.lt (fun i hi => (B2.out.drew.nat i (by rw [LX.out]; exact hi)).trans (by rw [AX.out i hi]))).mono ?_
  rintro e wx1 ⟨rfl, hblk1, hgr1⟩
  refine hK.out _ _ trivial (fun hHeld2 => ?_)
  clear hK K hHeld
  have hHeld := hHeld2
  clear hHeld2
  try simp only [Act.put, List.getElem_toArray, List.getElem_cons_succ, List.getElem_cons_zero, List.setIfInBounds_toArray, List.set_cons_zero, List.set_cons_succ]
  refine wpAnyH_done (by kernel_rfl) ?_ _
  have D1 := Lib.hid (B1.out.drew.grown hgr1 (by simp <;> omega))
  have D3 := Lib.hid (B3.out.drew.grown hgr1 (by simp <;> omega))
  have D5 := Lib.hid (B5.out.drew.grown hgr1 (by simp <;> omega))
  have D4 := Lib.hid hblk1
  have belD : Below w.heap.size w wx1 := below_of_grown BEL.out.drew hgr1 (by omega)
  clear B1 B2 B3 B4 B5 BEL hblk1 hgr1 hHeld LX AX
  go_wp2_with fail
  refine wp_region_held_drew (S := (fun _ => True)) (by kernel_rfl) trivial (fun hHeld => ?_)
  refine wpAnyH_take (i := 0) (oi := _) (v := _) rfl (by kernel_rfl) (by kernel_rfl) (by kernel_rfl) (fun _ _ _ h => h) (Or.inl ⟨by rfl, by intro w hSw; (try dsimp only at hSw); go_simp; first | done | with_reducible rfl⟩) hHeld ?_
  try simp only [Act.put, List.getElem_toArray, List.getElem_cons_succ, List.getElem_cons_zero, List.setIfInBounds_toArray, List.set_cons_zero, List.set_cons_succ]
  refine wpAnyH_take (i := 1) (oi := _) (v := _) rfl (by kernel_rfl) (by kernel_rfl) (by kernel_rfl) (fun _ _ _ h => h) (Or.inl ⟨by rfl, by intro w hSw; (try dsimp only at hSw); go_simp; first | done | with_reducible rfl⟩) hHeld ?_
  try simp only [Act.put, List.getElem_toArray, List.getElem_cons_succ, List.getElem_cons_zero, List.setIfInBounds_toArray, List.set_cons_zero, List.set_cons_succ]
  refine wpAnyH_take (i := 2) (oi := _) (v := _) rfl (by kernel_rfl) (by kernel_rfl) (by kernel_rfl) (fun _ _ _ h => h) (Or.inl ⟨by rfl, by intro w hSw; (try dsimp only at hSw); go_simp; first | done | with_reducible rfl⟩) hHeld ?_
  try simp only [Act.put, List.getElem_toArray, List.getElem_cons_succ, List.getElem_cons_zero, List.setIfInBounds_toArray, List.set_cons_zero, List.set_cons_succ]
  refine wpAnyH_ready (rs := [3]) (by kernel_rfl) (by simp) ?_
  refine AllReadyH.cons (o := _) rfl (fun K hK => ?_) AllReadyH.nil
  go_simp
  go_at_call 126
  refine (split_any 139 4 (w.heap.size + 1 + 1 + 1 + 1) w.heap.size m _ (by omega) D5.out.drew (by omega) D1.out.drew.lt (fun i hi => by have := primL_range D1.out.drew i _ (natsV_get .u64 lm i (by rw [LM.out]; exact hi)); rw [Nat.zero_add, AM.out i hi] at this; exact this)).mono ?_
  rintro e wx2 ⟨rfl, hblk2, hgr2⟩
  refine hK.out _ _ trivial (fun hHeld2 => ?_)
  clear hK K hHeld
  have hHeld := hHeld2
  clear hHeld2
  try simp only [Act.put, List.getElem_toArray, List.getElem_cons_succ, List.getElem_cons_zero, List.setIfInBounds_toArray, List.set_cons_zero, List.set_cons_succ]
  refine wpAnyH_done (by kernel_rfl) ?_ _
  have F1 := Lib.hid (D1.out.drew.grown hgr2 (by simp <;> omega))
  have F3 := Lib.hid (D3.out.drew.grown hgr2 (by simp <;> omega))
  have F4 := Lib.hid (D4.out.drew.grown hgr2 (by simp <;> omega))
  rw [show 2 * 4 = 8 from rfl, ← HLD.out] at hblk2
  have F5 := Lib.hid hblk2
  have belF : Below w.heap.size w wx2 := below_of_grown belD.drew hgr2 (by omega)
  clear D1 D3 D4 D5 belD hblk2 hgr2 hHeld AM
  go_wp2_with fail
  go_loopw [7, 22] (fun ov i wr => ∃ t : Nat, t ≤ 8 ∧ ∃ lp over, RedAt m X t over lp ∧ i = .int .i64 t ∧ ov = .int .u64 (over : Nat) ∧ Blk wr w.heap.size 83 (primL lm f) ∧ Blk wr (w.heap.size + 1 + 1) 24 (natsV .u64 (zeros 4)) ∧ Blk wr (w.heap.size + 1 + 1 + 1) 138 (natsV .u32 lp) ∧ Blk wr (w.heap.size + 1 + 1 + 1 + 1) 139 (natsV .u32 ld) ∧ Below w.heap.size w wr) (fun _ i _ => 8 - (intOf i).toNat)
  case atStart => exact ⟨0, by omega, _, 0, HST.out, rfl, rfl, F1.out, F3.out, F4.out, F5.out, belF⟩
  case round =>
    clear F1 F3 F4 F5 belF HST
    obtain ⟨t, ht, lp, over, hm0, rfl, rfl, k1, k3, k4, k5, hbel⟩ := hrel
    have K1 := Lib.hid k1
    have K3 := Lib.hid k3
    have K4 := Lib.hid k4
    have K5 := Lib.hid k5
    have HM := Lib.hid hm0
    have HLP := Lib.hid hm0.1
    have hov := hm0.2.2.1
    clear k1 k3 k4 k5 hm0
    by_cases h8 : t < 8
    · as_aux_lemma =>
      have hti : (t : Int) < 8 := by omega
      have c0 := K4.out.nat t (by rw [HLP.out]; omega)
      have cf := primL_fac K1.out LM.out
      obtain ⟨c, hc⟩ : ∃ c, c = lp.getD t 0 * f % 4294967296 := ⟨_, rfl⟩
      have emul := u32_mul (lp.getD t 0) f c hc
      have hc32 : c < 4294967296 := by rw [hc]; exact Nat.mod_lt _ (by decide)
      have ecv := u64_in c (by omega)
      have HROW := Lib.hid (fun cy l (h : RowAt m c t (val (2 ^ 32) lp) 8 cy l) (s : Nat) (hs : s = l.getD (t + 8) 0 + cy + over) => RowAt.row HH.out HM.out h8 (hc ▸ h) s hs)
      have HRS := Lib.hid (HM.out.rowStart c)
      generalize val (2 ^ 32) lp = T at *
      clear hc
      generalize lp.getD t 0 = lt at *
      have N1 := Lib.hid K1.out.drew
      have N3 := Lib.hid K3.out.drew
      have N4 := Lib.hid K4.out.drew
      have N5 := Lib.hid K5.out.drew
      have hbelN := hbel.drew
      clear K1 K3 K4 K5 hbel HM HDONE HOF LO HBL
      go_wp2_with fail
      go_region
      clear c0 cf emul
      generalize wr.drew = wd at *
      go_wp2_with (refine wpList_load_row rfl 139 (.tmp 6) rfl (w.heap.size + 1 + 1 + 1 + 1) rfl 139 (natsV .u32 ld).toArray (0, 0) _ N5.out Try.underlying139 rfl (by rw [info139, size_nats, LD.out]) ?_)
      go_loopw [10, 33] (fun cc jj wr => ∃ s : Nat, s ≤ 8 ∧ ∃ lq cy, RowAt m c t T s cy lq ∧ jj = .int .i64 s ∧ cc = .int .u64 (cy : Nat) ∧ Blk wr w.heap.size 83 (primL lm f) ∧ Blk wr (w.heap.size + 1 + 1) 24 (natsV .u64 (zeros 4)) ∧ Blk wr (w.heap.size + 1 + 1 + 1) 138 (natsV .u32 lq) ∧ Blk wr (w.heap.size + 1 + 1 + 1 + 1) 139 (natsV .u32 ld) ∧ Below w.heap.size w wr) (fun _ jj _ => 8 - (intOf jj).toNat)
      case atStart => exact ⟨0, by omega, lp, 0, HRS.out, rfl, rfl, N1.out, N3.out, N4.out, N5.out, hbelN⟩
      case round =>
        clear N1 N3 N4 N5 hbelN HRS
        obtain ⟨s, hs, lq, cy, hm1, rfl, rfl, k1, k3, k4, k5, hbel⟩ := hrel
        have K1 := Lib.hid k1
        have K3 := Lib.hid k3
        have K4 := Lib.hid k4
        have K5 := Lib.hid k5
        have HM1 := Lib.hid hm1
        have HLQ := Lib.hid hm1.1
        have hcy := hm1.2.2.1
        have HLT := Lib.hid hm1.2.1
        clear k1 k3 k4 k5 hm1
        by_cases hs8 : s < 8
        · as_aux_lemma =>
          have hsi : (s : Int) < 8 := by omega
          have ix := fun w0 => index_nats (P := Try.prog) w0 139 77 8 .u32 ld s Try.underlying139 Try.underlying77 info65r hs8 LD.out
          rw [AD.out s hs8] at ix
          obtain ⟨z, hz⟩ : ∃ z, z = c * dgt (2 ^ 32) m s + lq.getD (t + s) 0 + cy := ⟨_, rfl⟩
          obtain ⟨hz64, hn⟩ := HM1.out.next h8 hs8 hc32 z hz
          have HN := Lib.hid hn
          have hd := dgt_lt (B := 2 ^ 32) (by decide) m s
          have hpj := getD_lt' HLT.out (by decide) (t + s)
          have hfit := fit32 c (dgt (2 ^ 32) m s) (lq.getD (t + s) 0) cy hc32 hd hpj hcy
          clear hn HM1 HROW
          generalize dgt (2 ^ 32) m s = d at *
          obtain ⟨p, hp⟩ : ∃ p, p = t + s := ⟨_, rfl⟩
          rw [← hp] at HN hpj hz hfit
          have e1 : (t : Int) + (s : Int) = (p : Int) := by omega
          have hp16 : p < 16 := by omega
          have hpi : (p : Int) < 16 := by omega
          clear hp
          have c0 := K4.out.nat p (by rw [HLQ.out]; exact hp16)
          have f0 := K4.out.free p
          generalize lq.getD p 0 = pj at *
          obtain ⟨cd, hcd⟩ : ∃ cd, cd = c * d := ⟨_, rfl⟩
          rw [← hcd] at hz hfit
          have em := w_mul c d cd hcd (by rw [hcd]; exact Nat.le_trans (Nat.mul_le_mul (show c ≤ 4294967295 by omega) (show d ≤ 4294967295 from Nat.le_of_lt_succ hd)) (by decide))
          have e2 := u64_in d (by omega)
          have e3 := u64_in pj (by omega)
          have e4 := w_add cd pj (cd + pj) rfl hfit.2.2
          have e5 : IntKind.u64.wrap (((cd + pj : Nat) : Int) + (cy : Int)) = (z : Int) := w_add (cd + pj) cy z hz hz64
          have e6 := u32_lo z _ rfl
          have e7 := w_hi z _ rfl
          generalize cd + pj = cp at *
          obtain ⟨zl, hzl⟩ : ∃ x, x = z % 4294967296 := ⟨_, rfl⟩
          obtain ⟨zh, hzh⟩ : ∃ x, x = z / 4294967296 := ⟨_, rfl⟩
          rw [← hzl] at e6 HN
          rw [← hzh] at e7 HN
          clear hzl hzh hz hz64 hcd hfit hpj hd
          have n4 := Lib.hid (K4.out.natSet p zl)
          have n1 := Lib.hid (K1.out.other ⟨w.heap.size + 1 + 1 + 1, p, none⟩ (.int .u32 (zl : Nat)) (by simp <;> omega))
          have n3 := Lib.hid (K3.out.other ⟨w.heap.size + 1 + 1 + 1, p, none⟩ (.int .u32 (zl : Nat)) (by simp))
          have n5 := Lib.hid (K5.out.other ⟨w.heap.size + 1 + 1 + 1, p, none⟩ (.int .u32 (zl : Nat)) (by simp))
          have hb2 := hbel.setCell (p := ⟨w.heap.size + 1 + 1 + 1, p, none⟩) (by simp; omega) (.int .u32 (zl : Nat))
          clear K1 K3 K4 K5 hbel
          go_wp2_with fail
          go_roundw
          case rel => exact ⟨s + 1, by omega, _, zh, HN.out, by go_num, rfl, n1.out, n3.out, n4.out, n5.out, hb2⟩
          case measure => simp [intOf] <;> omega
        · as_aux_lemma =>
          obtain rfl : s = 8 := by omega
          rw [show ((8 : Nat) : Int) = 8 from rfl]
          obtain ⟨z, hz⟩ : ∃ z, z = lq.getD (t + 8) 0 + cy + over := ⟨_, rfl⟩
          obtain ⟨hz64, hn⟩ := HROW.out cy lq HM1.out z hz
          have HN := Lib.hid hn
          have hpj := getD_lt' HLT.out (by decide) (t + 8)
          clear hn HM1 HROW
          obtain ⟨p, hp⟩ : ∃ p, p = t + 8 := ⟨_, rfl⟩
          rw [← hp] at HN hpj hz
          have e1 : (t : Int) + 8 = (p : Int) := by omega
          have hp16 : p < 16 := by omega
          have hpi : (p : Int) < 16 := by omega
          clear hp
          have c0 := K4.out.nat p (by rw [HLQ.out]; exact hp16)
          have f0 := K4.out.free p
          generalize lq.getD p 0 = pj at *
          have e3 := u64_in pj (by omega)
          have e4 := w_add pj cy (pj + cy) rfl (by omega)
          have e5 : IntKind.u64.wrap (((pj + cy : Nat) : Int) + (over : Int)) = (z : Int) := w_add (pj + cy) over z hz (by omega)
          have e6 := u32_lo z _ rfl
          have e7 := w_hi z _ rfl
          generalize pj + cy = cp at *
          obtain ⟨zl, hzl⟩ : ∃ x, x = z % 4294967296 := ⟨_, rfl⟩
          obtain ⟨zh, hzh⟩ : ∃ x, x = z / 4294967296 := ⟨_, rfl⟩
          rw [← hzl] at e6 HN
          rw [← hzh] at e7 HN
          clear hzl hzh hz hz64 hpj
          have n4 := Lib.hid (K4.out.natSet p zl)
          have n1 := Lib.hid (K1.out.other ⟨w.heap.size + 1 + 1 + 1, p, none⟩ (.int .u32 (zl : Nat)) (by simp <;> omega))
          have n3 := Lib.hid (K3.out.other ⟨w.heap.size + 1 + 1 + 1, p, none⟩ (.int .u32 (zl : Nat)) (by simp))
          have n5 := Lib.hid (K5.out.other ⟨w.heap.size + 1 + 1 + 1, p, none⟩ (.int .u32 (zl : Nat)) (by simp))
          have hb2 := hbel.setCell (p := ⟨w.heap.size + 1 + 1 + 1, p, none⟩) (by simp; omega) (.int .u32 (zl : Nat))
          clear K1 K3 K4 K5 hbel
          go_wp2_with fail
          go_roundw
          case rel => exact ⟨t + 1, by omega, _, zh, HN.out, by go_num, rfl, n1.out, n3.out, n4.out, n5.out, hb2⟩
          case measure => simp [intOf] <;> omega
    · as_aux_lemma =>
      obtain rfl : t = 8 := by omega
      rw [show ((8 : Nat) : Int) = 8 from rfl]
      obtain ⟨U, hU, hUd, hU2, hUm⟩ := HDONE.out over lp HM.out
      rw [HOF] at hUm
      have HB := HBL.out U over
      rw [hUm, ← hlr] at HB
      have hc0 : ∀ i, i < 8 → wr.drew.cell? ⟨w.heap.size + 1 + 1 + 1, 8 + i, none⟩ = some (.int .u32 (dgt (2 ^ 32) U i : Nat)) := fun i hi => by
        rw [K4.out.drew.nat (8 + i) (by rw [HLP.out]; omega), hUd i hi]
      have HJ := Lib.hid (join_any' 8 (w.heap.size + 1 + 1 + 1) U 8 wr.drew (by omega) (by omega) K4.out.drew.lt hc0)
      have HB2 := Lib.hid (fun w => HB w hU hU2 hov)
      have eov := ow_le over hov
      clear HB hU hUd hU2 hUm hc0 HBL HDONE HOF
      have i71 : (Try.prog.info? 83).map (·.size) = some (primL lm f).length := by rw [info83, LP.out]
      generalize wds 4 U = lu at *
      go_wp2_with fail
      refine wp_region_held_drew (S := (fun w' => w'.rangeAt w.heap.size 0 (primL lm f))) (by kernel_rfl) (blk_rangeV K1.out.drew) (fun hHeld => ?_)
      refine wpAnyH_take (i := 0) (oi := _) (v := _) rfl (by kernel_rfl) (by kernel_rfl) (by kernel_rfl) (fun _ _ _ h => h) (yieldsIf_load_mid (by rfl) _ _ rfl _ _ rfl _ _ (by intro w hSw; exact hSw) Try.underlying83 rfl i71) hHeld ?_
      try simp only [Act.put, List.getElem_toArray, List.getElem_cons_succ, List.getElem_cons_zero, List.setIfInBounds_toArray, List.set_cons_zero, List.set_cons_succ]
      refine wpAnyH_take (i := 1) (oi := _) (v := _) rfl (by kernel_rfl) (by kernel_rfl) (by kernel_rfl) (fun _ _ _ h => h) (Or.inl ⟨by rfl, by intro w hSw; (try dsimp only at hSw); go_simp; first | done | with_reducible rfl⟩) hHeld ?_
      try simp only [Act.put, List.getElem_toArray, List.getElem_cons_succ, List.getElem_cons_zero, List.setIfInBounds_toArray, List.set_cons_zero, List.set_cons_succ]
      refine wpAnyH_take (i := 3) (oi := _) (v := _) rfl (by kernel_rfl) (by kernel_rfl) (by kernel_rfl) (fun _ _ _ h => h) (Or.inl ⟨by rfl, by intro w hSw; (try dsimp only at hSw); go_simp; first | done | with_reducible rfl⟩) hHeld ?_
      try simp only [Act.put, List.getElem_toArray, List.getElem_cons_succ, List.getElem_cons_zero, List.setIfInBounds_toArray, List.set_cons_zero, List.set_cons_succ]
      refine wpAnyH_take (i := 4) (oi := _) (v := _) rfl (by kernel_rfl) (by kernel_rfl) (by kernel_rfl) (fun _ _ _ h => h) (Or.inl ⟨by rfl, by intro w hSw; (try dsimp only at hSw); go_simp; first | done | with_reducible rfl⟩) hHeld ?_
      try simp only [Act.put, List.getElem_toArray, List.getElem_cons_succ, List.getElem_cons_zero, List.setIfInBounds_toArray, List.set_cons_zero, List.set_cons_succ]
      refine wpAnyH_ready (rs := [2]) (by kernel_rfl) (by simp) ?_
      refine AllReadyH.cons (o := _) rfl (fun K hK => ?_) AllReadyH.nil
      go_simp
      go_at_call 127
      refine (HJ.out).mono ?_
      rintro e wx3 ⟨rfl, hbx3⟩
      refine hK.out _ _ (range_keepV hHeld hbx3) (fun hHeld2 => ?_)
      clear hK K hHeld
      have hHeld := hHeld2
      clear hHeld2
      try simp only [Act.put, List.getElem_toArray, List.getElem_cons_succ, List.getElem_cons_zero, List.setIfInBounds_toArray, List.set_cons_zero, List.set_cons_succ]
      refine wpAnyH_ready (rs := [5]) (by kernel_rfl) (by simp) ?_
      refine AllReadyH.cons (o := _) rfl (fun K hK => ?_) AllReadyH.nil
      go_simp
      go_at_call 60
      refine (HB2.out _).mono ?_
      rintro e wx4 ⟨rfl, hbx4⟩
      refine hK.out _ _ (range_keepV hHeld hbx4) (fun hHeld2 => ?_)
      clear hK K hHeld
      have hHeld := hHeld2
      clear hHeld2
      try simp only [Act.put, List.getElem_toArray, List.getElem_cons_succ, List.getElem_cons_zero, List.setIfInBounds_toArray, List.set_cons_zero, List.set_cons_succ]
      refine wpAnyH_ready (rs := [6]) (by kernel_rfl) (by simp) ?_
      refine AllReadyH.cons (o := _) rfl (fun K hK => ?_) AllReadyH.nil
      rw [if_pos (by rfl)]
      refine wst24 (.tmp 4) (.tmp 81) rfl (w.heap.size + 1 + 1) rfl lr rfl LO.out (zeros 4) ((K3.out.drew.below' hbx3).below' hbx4) rfl ?_
      refine hK.out _ _ (blk_rangeV (((K1.out.drew.below' hbx3).below' hbx4).row (natsV .u64 lr).toArray (show w.heap.size ≠ w.heap.size + 1 + 1 by omega))) (fun hHeld2 => ?_)
      clear hK K hHeld
      have hHeld := hHeld2
      clear hHeld2
      try simp only [Act.put, List.getElem_toArray, List.getElem_cons_succ, List.getElem_cons_zero, List.setIfInBounds_toArray, List.set_cons_zero, List.set_cons_succ]
      refine wpAnyH_done (by kernel_rfl) ?_ _
      have j3 := ((K3.out.drew.below' hbx3).below' hbx4).setRow (natsV .u64 lr)
      have hb1 := hbel.drew.trans (hbx3.mono hbel.drew.size)
      have hb2 := below_setRow' (hb1.trans (hbx4.mono hb1.size)) (show w.heap.size ≤ w.heap.size + 1 + 1 by omega) (natsV .u64 lr).toArray
      go_wp2_with fail
      refine bodyPost_ret (v := .agg (natsV .u64 lr).toArray) ?_ rfl ⟨rfl, hb2⟩
      exact ret24 Try.results102 _ _ (w.heap.size + 1 + 1) lr rfl j3 LO.out
end Go.Proofs.Ytfffmoolkgheaaa
