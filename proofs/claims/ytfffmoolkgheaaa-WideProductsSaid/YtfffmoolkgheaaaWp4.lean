/- The document's quotient and rest: bit by bit. No condition but 256 bits and a modulus that is not 0. -/
import Derived.Test.YtfffmoolkgheaaaWp3
import Derived.Test.YtfffmoolkgheaaaNm
import Derived.Test.YtfffmoolkgheaaaA
import Derived.Test.YtfffmoolkgheaaaG0
namespace Go.Proofs.Ytfffmoolkgheaaa
open Go.RowKit
set_option linter.unusedVariables false
set_option linter.unusedSimpArgs false
theorem i26 {l : List Nat} (h : l.length = 8) : (Try.prog.info? 26).map (·.size) = some (natsV .u64 l).length := by rw [info26, natsV_length, h]
theorem Rd16.gr {w w' : World} {g n V : Nat} (h : Rd16 w g n V) (hb : Gr w w') : Rd16 w' g n V := h.below hb
theorem Rd16.grown {w w' : World} {g n V : Nat} {r : Option Nat} (h : Rd16 w g n V) (hg : w.grownBy w' r) (ne : some g ≠ r) : Rd16 w' g n V := fun i hi => hg.cell (h i hi) ne
theorem results_rows {P : Program} {fn : Func} {p q : Tmp} {ty ty2 : TypeId} (h : fn.results = #[.cell p ty, .cell q ty2]) (tmps : Array Value) (w : World) (g : Nat) (t : TypeId) (cs : Array Value) (fr : Nat × Nat) (g2 : Nat) (t2 : TypeId) (cs2 : Array Value) (fr2 : Nat × Nat) (d d2 : TypeDesc)
    (hp : tmps.getD p undef = .pointer (some ⟨g, 0, none⟩)) (hq : tmps.getD q undef = .pointer (some ⟨g2, 0, none⟩)) (hg : w.heap[g]? = some (.cells cs t fr)) (hg2 : w.heap[g2]? = some (.cells cs2 t2 fr2))
    (hu : P.underlying ty = some d) (hd : (match d with | .struct _ | .array _ _ => true | _ => false) = true) (hi : (P.info? ty).map (·.size) = some cs.size)
    (hu2 : P.underlying ty2 = some d2) (hd2 : (match d2 with | .struct _ | .array _ _ => true | _ => false) = true) (hi2 : (P.info? ty2).map (·.size) = some cs2.size) :
    (results fn tmps).run P w = .ok (.tuple #[.agg cs, .agg cs2]) w := by
  have hp' : tmps[p]?.getD undef = .pointer (some ⟨g, 0, none⟩) := by simpa using hp
  have hq' : tmps[q]?.getD undef = .pointer (some ⟨g2, 0, none⟩) := by simpa using hq
  simp [results, h, hp', hq', asAddr, run_loadVar_row w g t ty cs fr d hg hu hd hi, run_loadVar_row w g2 t2 ty2 cs2 fr2 d2 hg2 hu2 hd2 hi2]
theorem b_half (s : Nat) : 2 ^ (s + 1) / 2 = 2 ^ s := by rw [Nat.pow_succ]; omega
set_option maxRecDepth 100000 in
set_option maxHeartbeats 6400000 in
theorem dDivRem_any (X m : Nat) (w : World) (hX : X < 2 ^ 512) (hm : m < 2 ^ 256) (h0 : m ≠ 0) : Calls Try.prog 15 #[.agg (natsV .u64 (wds 8 X)).toArray, .agg (natsV .u64 (wds 4 m)).toArray] w fun e w' => e = .returned (.tuple #[.agg (natsV .u64 (wds 8 (X / m))).toArray, .agg (natsV .u64 (wds 4 (X % m))).toArray]) ∧ Below w.heap.size w w' := by
  have hm0 : 0 < m := Nat.pos_of_ne_zero h0
  obtain ⟨RW, hRW⟩ : ∃ RW : Nat → List Nat, RW = fun p => wds 4 (X / 2 ^ p % m) := ⟨_, rfl⟩
  obtain ⟨QW, hQW⟩ : ∃ QW : Nat → List Nat, QW = fun p => tell (qL (X / m) p) 8 := ⟨_, rfl⟩
  have LRW := Lib.hid (fun p => show (RW p).length = 4 by rw [hRW]; exact wds_len 4 _)
  have LQW := Lib.hid (fun p => show (QW p).length = 8 by rw [hQW]; exact tell_length _ _)
  have HR0 := Lib.hid (show RW 512 = zeros 4 by rw [hRW]; show wds 4 (X / 2 ^ 512 % m) = _; rw [Nat.div_eq_of_lt hX, Nat.zero_mod, ← num_zero])
  have HQ0 := Lib.hid (show QW 512 = zeros 8 by rw [hQW]; exact qL_zero _)
  have HRE := Lib.hid (show RW 0 = wds 4 (X % m) by rw [hRW]; show wds 4 (X / 2 ^ 0 % m) = _; rw [Nat.pow_zero, Nat.div_one])
  have HQE := Lib.hid (show QW 0 = wds 8 (X / m) by rw [hQW]; exact qL_all _)
  have HTW := Lib.hid (fun p (w : World) => show Calls Try.prog 55 #[.agg (natsV .u64 (RW (p + 1))).toArray, .int .i64 (X / 2 ^ p % 2 : Nat), .agg (natsV .u64 (wds 4 m)).toArray] w (fun e w' => e = .returned (.tuple #[.agg (natsV .u64 (RW p)).toArray, .bool (decide (m ≤ 2 * (X / 2 ^ (p + 1) % m) + X / 2 ^ p % 2))]) ∧ Below w.heap.size w w') from by
    have k := twice_any (X / 2 ^ (p + 1) % m) (X / 2 ^ p % 2) m w (Nat.mod_lt _ hm0) (by have := Nat.mod_lt (X / 2 ^ p) (show 0 < 2 by decide); omega) hm
    rw [← rest_step X m p hm0] at k
    rw [hRW]; exact k)
  have HQS := Lib.hid (fun u k (hk : k < 64) (hu : u < 8) => (⟨by rw [hQW]; exact (tell_getD _ _ _ hu), qL_lt (X / m) u k hk, by rw [hQW]; exact qL_set (X / m) u k hk hu, qL_step (X / m) u k (if m ≤ 2 * (X / 2 ^ (64 * u + k + 1) % m) + X / 2 ^ (64 * u + k) % 2 then 1 else 0) hk (by split <;> decide) (quo_step X m (64 * u + k) hm0)⟩ :
      (QW (64 * u + k + 1)).getD u 0 = qL (X / m) (64 * u + k + 1) u ∧ qL (X / m) (64 * u + k + 1) u < 9223372036854775808 ∧ (QW (64 * u + k + 1)).set u (qL (X / m) (64 * u + k) u) = QW (64 * u + k) ∧ qL (X / m) (64 * u + k) u = 2 * qL (X / m) (64 * u + k + 1) u + (if m ≤ 2 * (X / 2 ^ (64 * u + k + 1) % m) + X / 2 ^ (64 * u + k) % 2 then 1 else 0)))
  have L_lx := Lib.hid (wds_len 8 X)
  have L_lm := Lib.hid (wds_len 4 m)
  have L_q := Lib.hid (wds_len 8 (X / m))
  have L_r := Lib.hid (wds_len 4 (X % m))
  have AX := Lib.hid (fun i (hi : i < 8) => wds_at 8 X i hi)
  clear hRW hQW hX hm h0 hm0
  generalize wds 8 (X / m) = lq at *
  generalize wds 4 (X % m) = lr at *
  generalize wds 8 X = lx at *
  generalize wds 4 m = lm at *
  have B0_ := Lib.hid ((((Blk.new w  26 (natsV .u64 lx)).alloc (.cells (natsV .u64 lm).toArray 24)).alloc (.cells (natsV .u64 (zeros 8)).toArray 26)).alloc (.cells (natsV .u64 (zeros 4)).toArray 24))
  have B1_ := Lib.hid (((Blk.new2 w (.cells (natsV .u64 lx).toArray 26) 24 (natsV .u64 lm)).alloc (.cells (natsV .u64 (zeros 8)).toArray 26)).alloc (.cells (natsV .u64 (zeros 4)).toArray 24))
  have B2_ := Lib.hid ((Blk.new3 w (.cells (natsV .u64 lx).toArray 26) (.cells (natsV .u64 lm).toArray 24) 26 (natsV .u64 (zeros 8))).alloc (.cells (natsV .u64 (zeros 4)).toArray 24))
  have B3_ := Lib.hid (Blk.new4 w (.cells (natsV .u64 lx).toArray 26) (.cells (natsV .u64 lm).toArray 24) (.cells (natsV .u64 (zeros 8)).toArray 26) 24 (natsV .u64 (zeros 4)))
  have bel_ := (((((Below.refl w.heap.size w).alloc (Nat.le_refl _) (.cells (natsV .u64 lx).toArray 26)).alloc (by simp) (.cells (natsV .u64 lm).toArray 24)).alloc (by simp; omega) (.cells (natsV .u64 (zeros 8)).toArray 26)).alloc (by simp; omega) (.cells (natsV .u64 (zeros 4)).toArray 24))
  go_enter Try.func15, Try.ntmps15
  go_upto_region 1 with (fail)
  change Code.wp _ _ _ _ ((((w.alloc (.cells (natsV .u64 lx).toArray 26)).alloc (.cells (natsV .u64 lm).toArray 24)).alloc (.cells (natsV .u64 (zeros 8)).toArray 26)).alloc (.cells (natsV .u64 (zeros 4)).toArray 24))
  have lt0 := B3_.out.lt
  generalize ((((w.alloc (.cells (natsV .u64 lx).toArray 26)).alloc (.cells (natsV .u64 lm).toArray 24)).alloc (.cells (natsV .u64 (zeros 8)).toArray 26)).alloc (.cells (natsV .u64 (zeros 4)).toArray 24)) = w0 at *
  go_upto_region 2 with (fail)
  have D6 := Lib.hid (Blk.new w0 26 (natsV .u64 (zeros 8)))
  have hgm := Gr.alloc w0 (.cells (natsV .u64 (zeros 8)).toArray 26)
  have C1 := Lib.hid (B0_.out.gr hgm)
  clear B0_
  have C2 := Lib.hid (B1_.out.gr hgm)
  clear B1_
  have C3 := Lib.hid (B2_.out.gr hgm)
  clear B2_
  have C4 := Lib.hid (B3_.out.gr hgm)
  clear B3_
  have hbel5 := bel_.trans (Below.mono hgm bel_.size)
  clear bel_
  clear hgm
  change Code.wp _ _ _ _ (w0.alloc (.cells (natsV .u64 (zeros 8)).toArray 26))
  generalize w0.alloc (.cells (natsV .u64 (zeros 8)).toArray 26) = w0b at *
  generalize w0.heap.size = Gq at *
  have lt1 := D6.out.lt
  go_upto_region 3 with (fail)
  have D7 := Lib.hid (Blk.new w0b 24 (natsV .u64 (zeros 4)))
  have hgm := Gr.alloc w0b (.cells (natsV .u64 (zeros 4)).toArray 24)
  have C6 := Lib.hid (C1.out.gr hgm)
  clear C1
  have C7 := Lib.hid (C2.out.gr hgm)
  clear C2
  have C8 := Lib.hid (C3.out.gr hgm)
  clear C3
  have C9 := Lib.hid (C4.out.gr hgm)
  clear C4
  have C10 := Lib.hid (D6.out.gr hgm)
  clear D6
  have hbel11 := hbel5.trans (Below.mono hgm hbel5.size)
  clear hbel5
  clear hgm
  change Code.wp _ _ _ _ (w0b.alloc (.cells (natsV .u64 (zeros 4)).toArray 24))
  generalize w0b.alloc (.cells (natsV .u64 (zeros 4)).toArray 24) = w1 at *
  generalize w0b.heap.size = Gr_ at *
  have nq : w.heap.size + 1 + 1 + 1 < Gq := lt0
  have nr : Gq < Gr_ := lt1
  clear lt0 lt1
  go_wp2_with fail
  go_loopw [8] (fun i wr => ∃ u : Nat, u ≤ 8 ∧ i = .int .i64 ((u : Int) - 1) ∧ Blk wr w.heap.size 26 (natsV .u64 lx) ∧ Blk wr (w.heap.size + 1) 24 (natsV .u64 lm) ∧ Blk wr (w.heap.size + 1 + 1) 26 (natsV .u64 (zeros 8)) ∧ Blk wr (w.heap.size + 1 + 1 + 1) 24 (natsV .u64 (zeros 4)) ∧ Blk wr Gq 26 (natsV .u64 (QW (64 * u))) ∧ Blk wr Gr_ 24 (natsV .u64 (RW (64 * u))) ∧ Below w.heap.size w wr) (fun i _ => (intOf i + 1).toNat)
  case atStart => exact ⟨8, by omega, rfl, C6.out, C7.out, C8.out, C9.out, by rw [show 64 * 8 = 512 from rfl, HQ0.out]; exact C10.out, by rw [show 64 * 8 = 512 from rfl, HR0.out]; exact D7.out, hbel11⟩
  case round =>
    clear C6 C7 C8 C9 C10 D7 hbel11
    obtain ⟨u, hu, rfl, kx, km, k4, k5, kq, kr, hbel⟩ := hrel
    have Kx := Lib.hid kx
    clear kx
    have Km := Lib.hid km
    clear km
    have K4 := Lib.hid k4
    clear k4
    have K5 := Lib.hid k5
    clear k5
    have Kq := Lib.hid kq
    clear kq
    have Kr := Lib.hid kr
    clear kr
    rcases u with _ | u
    · as_aux_lemma =>
      rw [show ((0 : Nat) : Int) - 1 = -1 from rfl]
      rw [show 64 * 0 = 0 from rfl, HQE.out] at Kq
      rw [show 64 * 0 = 0 from rfl, HRE.out] at Kr
      go_wp2_with fail
      have i26q : (Try.prog.info? 26).map (·.size) = some (natsV .u64 lq).length := i26 L_q.out
      have i24r : (Try.prog.info? 24).map (·.size) = some (natsV .u64 lr).length := i24 L_r.out
      have ne4q : Gq ≠ w.heap.size + 1 + 1 := by omega
      have ne4r : Gr_ ≠ w.heap.size + 1 + 1 := by omega
      have ne45 : w.heap.size + 1 + 1 + 1 ≠ w.heap.size + 1 + 1 := by omega
      refine wp_region_G (fun w_ => Blk w_ Gq 26 (natsV .u64 lq) ∧ Blk w_ Gr_ 24 (natsV .u64 lr)) 3 (by kernel_rfl) ⟨Kq.out.drew, Kr.out.drew⟩ ?_
      refine wpAnyG_take (fun _ _ hS_ hb_ => ⟨hS_.1.gr hb_, hS_.2.gr hb_⟩) (i := 0) rfl (by kernel_rfl) (fun _ _ _ h => h) (loadG (by rfl) _ _ rfl _ _ rfl (natsV .u64 lq) _ (fun _ hS_ => blk_all hS_.1) Try.underlying26 rfl i26q) ?_
      try simp only [Act.put, List.getElem_toArray, List.getElem_cons_succ, List.getElem_cons_zero, List.setIfInBounds_toArray, List.set_cons_zero, List.set_cons_succ]
      refine wpAnyG_take (fun _ _ hS_ hb_ => ⟨hS_.1.gr hb_, hS_.2.gr hb_⟩) (i := 1) rfl (by kernel_rfl) (fun _ _ _ h => h) (loadG (by rfl) _ _ rfl _ _ rfl (natsV .u64 lr) _ (fun _ hS_ => blk_all hS_.2) Try.underlying24 rfl i24r) ?_
      try simp only [Act.put, List.getElem_toArray, List.getElem_cons_succ, List.getElem_cons_zero, List.setIfInBounds_toArray, List.set_cons_zero, List.set_cons_succ]
      refine wpAnyG_store (i := 2) (by kernel_rfl) rfl K4.out.drew (lenEq (show (natsV .u64 (zeros 8)).length = 8 from rfl) (by rw [natsV_length, L_q.out])) (StoresG.mk (cs := natsV .u64 lq) (by rfl) 26 _ _ rfl rfl rfl i26q (natsV_one _ _)) (.inr (fun _ hS_ => ⟨hS_.1.row _ ne4q, hS_.2.row _ ne4r⟩)) ?_
      intro w2 hg2 hn2
      try simp only [Act.put, List.getElem_toArray, List.getElem_cons_succ, List.getElem_cons_zero, List.setIfInBounds_toArray, List.set_cons_zero, List.set_cons_succ]
      have F5 := K5.out.drew.grown hg2 (fun e => ne45 (Option.some.inj e))
      have hbel2 := belStore hbel.drew hg2 (by omega)
      refine wpAnyG_set (i := 3) (by kernel_rfl) (by kernel_rfl) rfl rfl F5 (lenEq (show (natsV .u64 (zeros 4)).length = 4 from rfl) (by rw [natsV_length, L_r.out])) (StoresG.mk (cs := natsV .u64 lr) (by rfl) 24 _ _ rfl rfl rfl i24r (natsV_one _ _)) ?_
      intro w3 hg3 hn3
      try simp only [Act.put, List.getElem_toArray, List.getElem_cons_succ, List.getElem_cons_zero, List.setIfInBounds_toArray, List.set_cons_zero, List.set_cons_succ]
      have F4 := hn2.grown hg3 (fun e => ne45 (Option.some.inj e).symm)
      have hbel3 := belStore hbel2 hg3 (by omega)
      go_wp2_with fail
      refine bodyPost_ret (v := .tuple #[.agg (natsV .u64 lq).toArray, .agg (natsV .u64 lr).toArray]) ?_ rfl ⟨rfl, hbel3⟩
      exact results_rows Try.results15 _ _ (w.heap.size + 1 + 1) 26 _ (0, 0) (w.heap.size + 1 + 1 + 1) 24 _ (0, 0) _ _ rfl rfl F4 hn3 Try.underlying26 rfl (by simpa using i26q) Try.underlying24 rfl (by simpa using i24r)
    · as_aux_lemma =>
      rw [show ((u + 1 : Nat) : Int) - 1 = (u : Int) by omega]
      have hu8 : u < 8 := by omega
      have hui : (u : Int) < 8 := by omega
      have hun : (0 : Int) ≤ (u : Int) := by omega
      obtain ⟨xw, hxw⟩ : ∃ x, x = dgt (2 ^ 64) X u := ⟨_, rfl⟩
      have cx := Kx.out.nat u (by rw [L_lx.out]; exact hu8)
      rw [AX.out u hu8, ← hxw] at cx
      have hxl : xw < 2 ^ 64 := by rw [hxw]; exact dgt_lt (by decide) X u
      have HXW := Lib.hid hxw
      clear hxw
      go_wp2_with fail
      have hltr := Kr.out.lt
      have hd1 : dgt (2 ^ 64) xw 0 = xw := by rw [dgt_zero, Nat.mod_eq_of_lt hxl]
      have hgb := Gr.alloc wr (.cells #[.int .u64 (xw : Nat)] 22)
      have RDW : Rd (wr.alloc (.cells #[.int .u64 (xw : Nat)] 22)) wr.heap.size 1 xw := fun i hi => by
        obtain rfl : i = 0 := by omega
        rw [hd1]; exact (Blk.new wr 22 [.int .u64 (xw : Nat)]).cell 0
      refine (digits_any xw 1 1 wr.heap.size _ (by omega) RDW).mono ?_
      rintro e wd hmd
      obtain ⟨gd, cd, rfl, hgd, hcd, _, rd0, hbd⟩ := made16 hmd (by decide)
      have hgw := hgb.trans hbd
      clear hmd RDW hd1 hxl cx
      have Jx := Lib.hid (Kx.out.gr hgw)
      clear Kx
      have Jm := Lib.hid (Km.out.gr hgw)
      clear Km
      have J4 := Lib.hid (K4.out.gr hgw)
      clear K4
      have J5 := Lib.hid (K5.out.gr hgw)
      clear K5
      have Jq := Lib.hid (Kq.out.gr hgw)
      clear Kq
      have Jr := Lib.hid (Kr.out.gr hgw)
      clear Kr
      have RDD := Lib.hid rd0
      have hbel2 := hbel.trans (Below.mono hgw hbel.size)
      have ndg : Gr_ < gd := by have h2 : wr.heap.size + 1 ≤ gd := (by simpa using hgd); omega
      clear hgd hltr
      clear rd0 hbel hgw hbd hgb
      go_wp2_with fail
      go_loopw [10] (fun i wr => ∃ v : Nat, v ≤ 4 ∧ i = .int .i64 ((v : Int) - 1) ∧ Blk wr w.heap.size 26 (natsV .u64 lx) ∧ Blk wr (w.heap.size + 1) 24 (natsV .u64 lm) ∧ Blk wr (w.heap.size + 1 + 1) 26 (natsV .u64 (zeros 8)) ∧ Blk wr (w.heap.size + 1 + 1 + 1) 24 (natsV .u64 (zeros 4)) ∧ Blk wr Gq 26 (natsV .u64 (QW (64 * u + 16 * v))) ∧ Blk wr Gr_ 24 (natsV .u64 (RW (64 * u + 16 * v))) ∧ Below w.heap.size w wr ∧ Rd16 wr gd 4 xw) (fun i _ => (intOf i + 1).toNat)
      case atStart => exact ⟨4, by omega, rfl, Jx.out, Jm.out, J4.out, J5.out, by rw [show 64 * u + 16 * 4 = 64 * (u + 1) by omega]; exact Jq.out, by rw [show 64 * u + 16 * 4 = 64 * (u + 1) by omega]; exact Jr.out, hbel2, RDD.out⟩
      case round =>
        clear Jx Jm J4 J5 Jq Jr hbel2 RDD
        obtain ⟨v, hv, rfl, kx, km, k4, k5, kq, kr, hbel, kd⟩ := hrel
        have Kx := Lib.hid kx
        clear kx
        have Km := Lib.hid km
        clear km
        have K4 := Lib.hid k4
        clear k4
        have K5 := Lib.hid k5
        clear k5
        have Kq := Lib.hid kq
        clear kq
        have Kr := Lib.hid kr
        clear kr
        have Kd := Lib.hid kd
        clear kd
        rcases v with _ | v
        · as_aux_lemma =>
          rw [show ((0 : Nat) : Int) - 1 = -1 from rfl]
          go_wp2_with fail
          go_roundw
          case rel => exact ⟨u, by omega, rfl, Kx.out, Km.out, K4.out, K5.out, by rw [show 64 * u = 64 * u + 16 * 0 by omega]; exact Kq.out, by rw [show 64 * u = 64 * u + 16 * 0 by omega]; exact Kr.out, hbel⟩
          case measure => simp [intOf] <;> omega
        · as_aux_lemma =>
          rw [show ((v + 1 : Nat) : Int) - 1 = (v : Int) by omega]
          have hv4 : v < 4 := by omega
          have hvi : (v : Int) < 4 := by omega
          have hvn : (0 : Int) ≤ (v : Int) := by omega
          go_wp2_with fail
          go_loopw [11] (fun b wr => ∃ s : Nat, s ≤ 16 ∧ b = .int .u32 ((2 ^ s / 2 : Nat) : Int) ∧ Blk wr w.heap.size 26 (natsV .u64 lx) ∧ Blk wr (w.heap.size + 1) 24 (natsV .u64 lm) ∧ Blk wr (w.heap.size + 1 + 1) 26 (natsV .u64 (zeros 8)) ∧ Blk wr (w.heap.size + 1 + 1 + 1) 24 (natsV .u64 (zeros 4)) ∧ Blk wr Gq 26 (natsV .u64 (QW (64 * u + (16 * v + s)))) ∧ Blk wr Gr_ 24 (natsV .u64 (RW (64 * u + (16 * v + s)))) ∧ Below w.heap.size w wr ∧ Rd16 wr gd 4 xw) (fun b _ => (intOf b).toNat)
          case atStart => exact ⟨16, by omega, rfl, Kx.out, Km.out, K4.out, K5.out, by rw [show 64 * u + (16 * v + 16) = 64 * u + 16 * (v + 1) by omega]; exact Kq.out, by rw [show 64 * u + (16 * v + 16) = 64 * u + 16 * (v + 1) by omega]; exact Kr.out, hbel, Kd.out⟩
          case round =>
            clear Kx Km K4 K5 Kq Kr hbel Kd
            obtain ⟨s, hs, rfl, kx, km, k4, k5, kq, kr, hbel, kd⟩ := hrel
            have Kx := Lib.hid kx
            clear kx
            have Km := Lib.hid km
            clear km
            have K4 := Lib.hid k4
            clear k4
            have K5 := Lib.hid k5
            clear k5
            have Kq := Lib.hid kq
            clear kq
            have Kr := Lib.hid kr
            clear kr
            have Kd := Lib.hid kd
            clear kd
            rcases s with _ | s
            · as_aux_lemma =>
              rw [show ((2 ^ 0 / 2 : Nat) : Int) = 0 from rfl]
              go_wp2_with fail
              go_roundw
              case rel => exact ⟨v, by omega, rfl, Kx.out, Km.out, K4.out, K5.out, by rw [show 64 * u + 16 * v = 64 * u + (16 * v + 0) by omega]; exact Kq.out, by rw [show 64 * u + 16 * v = 64 * u + (16 * v + 0) by omega]; exact Kr.out, hbel, Kd.out⟩
              case measure => simp [intOf] <;> omega
            · as_aux_lemma =>
              have hk64 : 16 * v + s < 64 := by omega
              obtain ⟨hq1, hq2, hq3, hq4⟩ := HQS.out u (16 * v + s) hk64 hu8
              have htw := HTW.out (64 * u + (16 * v + s))
              have hbit := bit_of X u v s (by omega) hv4
              rw [← HXW.out] at hbit
              rw [b_half]
              have cd := Kd.out v hv4
              have hdl := dgt_lt (B := 2 ^ 16) (by decide) xw v
              rw [show 64 * u + (16 * v + (s + 1)) = 64 * u + (16 * v + s) + 1 by omega] at Kq Kr
              obtain ⟨p, hp⟩ : ∃ p, p = 64 * u + (16 * v + s) := ⟨_, rfl⟩
              rw [← hp] at Kq Kr hq1 hq2 hq3 hq4 htw hbit
              obtain ⟨d, hd⟩ : ∃ d, d = dgt (2 ^ 16) xw v := ⟨_, rfl⟩
              rw [← hd] at cd hdl hbit
              obtain ⟨bb, hbb⟩ : ∃ b, b = 2 ^ s := ⟨_, rfl⟩
              rw [← hbb] at hbit ⊢
              have hb1 : 1 ≤ bb := by rw [hbb]; exact Nat.one_le_two_pow
              have hb2 : bb ≤ 32768 := by rw [hbb]; exact Nat.pow_le_pow_right (by decide) (show s ≤ 15 by omega)
              have hbh : 2 ^ s / 2 = bb / 2 := by rw [hbb]
              have HBH := Lib.hid hbh
              clear hbh
              obtain ⟨bt, hbt⟩ : ∃ b, b = X / 2 ^ p % 2 := ⟨_, rfl⟩
              rw [← hbt] at hbit htw hq4
              obtain ⟨z, hz⟩ : ∃ z, z = d / bb := ⟨_, rfl⟩
              rw [← hz] at hbit
              have hzl : z < 65536 := by rw [hz]; exact Nat.lt_of_le_of_lt (Nat.div_le_self _ _) hdl
              have hbt2 : bt < 2 := by rw [hbt]; exact Nat.mod_lt _ (by decide)
              obtain ⟨q0, hq0⟩ : ∃ q, q = qL (X / m) (p + 1) u := ⟨_, rfl⟩
              rw [← hq0] at hq1 hq2 hq4
              obtain ⟨q1, hqq⟩ : ∃ q, q = qL (X / m) p u := ⟨_, rfl⟩
              rw [← hqq] at hq3 hq4
              have HQ3 := Lib.hid hq3
              have HQ1 := Lib.hid hq1
              have HT := Lib.hid htw
              have HP := Lib.hid hp
              clear hq3 hq1 htw hp hd hbb hbt hq0 hqq
              have r1 : IntKind.u32.wrap ((d : Int) / (bb : Int)) = (z : Int) := by rw [← Int.natCast_ediv, ← hz, IntKind.wrap_u32]; omega
              have r1b : (d : Int) / (bb : Int) = (z : Int) := by rw [hz, Int.natCast_ediv]
              have r2 : (z : Int) % 2 = (bt : Int) := by omega
              have r3 : IntKind.i64.wrap (bt : Int) = (bt : Int) := IntWalk.i64_in _ (by omega)
              have hbn : ¬ (bb = 0) := by omega
              have hbp : (0 : Int) < (bb : Int) := by omega
              obtain ⟨b2, hb2e⟩ : ∃ b, b = bb / 2 := ⟨_, rfl⟩
              have r4 : (bb : Int) / 2 = (b2 : Int) := by omega
              have r5 : IntKind.u32.wrap (b2 : Int) = (b2 : Int) := by rw [IntKind.wrap_u32]; omega
              rw [← hb2e] at HBH
              clear hz hb2e hbit
              have cdw := cd
              have ndr : gd ≠ Gr_ := by omega
              have ndq : gd ≠ Gq := by omega
              have nlr : ∀ j, j ≤ w.heap.size + 1 + 1 + 1 → j ≠ Gr_ := fun j hj => by omega
              have nlq : ∀ j, j ≤ w.heap.size + 1 + 1 + 1 → j ≠ Gq := fun j hj => by omega
              have gr0 : w.heap.size ≤ Gr_ := by omega
              have gq0 : w.heap.size ≤ Gq := by omega
              rcases Nat.lt_or_ge (2 * (X / 2 ^ (p + 1) % m) + bt) m with hc | hc
              · as_aux_lemma =>
                rw [decide_eq_false (by omega)] at HT
                rw [if_neg (by omega)] at hq4
                obtain ⟨q2, hq2e⟩ : ∃ q, q = 2 * q0 := ⟨_, rfl⟩
                have r6 : IntKind.u64.wrap (2 * (q0 : Int)) = (q2 : Int) := by rw [hq2e, show (2 : Int) * (q0 : Int) = ((2 * q0 : Nat) : Int) by omega, u64_cut, Nat.mod_eq_of_lt (by omega)]
                have hq5 : q1 = q2 := by omega
                have HQ5 := Lib.hid hq5
                clear hq5 hq4 hq2e hc
                go_wp2_with (first | (refine wpList_load_mid rfl 24 (.tmp 7) rfl Gr_ 0 rfl (natsV .u64 (RW (p + 1))) _ (blk_all (Kr.out)) Try.underlying24 rfl (i24 (LRW.out (p + 1))) ?_) | (refine wpList_load_mid rfl 24 (.tmp 3) rfl (w.heap.size + 1) 0 rfl (natsV .u64 lm) _ (blk_all (Km.out)) Try.underlying24 rfl (i24 L_lm.out) ?_))
                refine (HT.out _).mono ?_
                rintro e w12 ⟨rfl, hbw12⟩
                have C13 := Lib.hid (Kx.out.gr hbw12)
                clear Kx
                have C14 := Lib.hid (Km.out.gr hbw12)
                clear Km
                have C15 := Lib.hid (K4.out.gr hbw12)
                clear K4
                have C16 := Lib.hid (K5.out.gr hbw12)
                clear K5
                have C17 := Lib.hid (Kq.out.gr hbw12)
                clear Kq
                have C18 := Lib.hid (Kr.out.gr hbw12)
                clear Kr
                have C19 := Lib.hid (Kd.out.gr hbw12)
                clear Kd
                have hbel20 := hbel.trans (Below.mono hbw12 hbel.size)
                clear hbel
                clear hbw12
                go_wp2_with (first | (refine stB rfl 24 (.tmp 13) (.tmp 45) rfl w12.heap.size rfl (natsV .u64 (RW p)) rfl 24 (natsV .u64 (zeros 4)) (Blk.new w12 24 (natsV .u64 (zeros 4))) (i24 (LRW.out p)) (lenEq (show (natsV .u64 (zeros 4)).length = 4 from rfl) (by rw [natsV_length, (LRW.out p)])) (natsV_one _ _) ?_; generalize hW : World.setRow _ _ _ = w21; obtain ⟨hgw21, hnw21⟩ := newfacts hW; clear hW; have NE24 := Lib.hid (Nat.ne_of_lt (C18.out.lt)); have C25 := Lib.hid (C13.out.gr hgw21); clear C13; have C26 := Lib.hid (C14.out.gr hgw21); clear C14; have C27 := Lib.hid (C15.out.gr hgw21); clear C15; have C28 := Lib.hid (C16.out.gr hgw21); clear C16; have C29 := Lib.hid (C17.out.gr hgw21); clear C17; have C30 := Lib.hid (C18.out.gr hgw21); clear C18; have C31 := Lib.hid (C19.out.gr hgw21); clear C19; have hbel32 := hbel20.trans (Below.mono hgw21 hbel20.size); clear hbel20; have D23 := Lib.hid hnw21; have szw21 := hgw21.size; clear hnw21 hgw21 szw21; generalize w12.heap.size = G22 at *) | (refine wpList_load_mid rfl 24 (.tmp 13) rfl G22 0 rfl (natsV .u64 (RW p)) _ (blk_all (D23.out)) Try.underlying24 rfl (i24 (LRW.out p)) ?_) | (refine stB rfl 24 (.tmp 7) (.tmp 47) rfl Gr_ rfl (natsV .u64 (RW p)) rfl 24 (natsV .u64 (RW (p + 1))) C30.out (i24 (LRW.out p)) (lenEq (by rw [natsV_length, (LRW.out (p + 1))]) (by rw [natsV_length, (LRW.out p)])) (natsV_one _ _) ?_; generalize hW : World.setRow _ _ _ = w33; obtain ⟨hgw33, hnw33⟩ := setfacts hW C30.out; clear hW; have E34 := Lib.hid (C25.out.grown hgw33 (fun e => (nlr _ (by omega)) (Option.some.inj e))); clear C25; have E35 := Lib.hid (C26.out.grown hgw33 (fun e => (nlr _ (by omega)) (Option.some.inj e))); clear C26; have E36 := Lib.hid (C27.out.grown hgw33 (fun e => (nlr _ (by omega)) (Option.some.inj e))); clear C27; have E37 := Lib.hid (C28.out.grown hgw33 (fun e => (nlr _ (by omega)) (Option.some.inj e))); clear C28; have E38 := Lib.hid (C29.out.grown hgw33 (fun e => (Nat.ne_of_lt nr) (Option.some.inj e))); clear C29; have E39 := Lib.hid (C31.out.grown hgw33 (fun e => ndr (Option.some.inj e))); clear C31; have E40 := Lib.hid (D23.out.grown hgw33 (fun e => (Ne.symm NE24.out) (Option.some.inj e))); clear D23; have D41 := Lib.hid hnw33; clear hnw33 C30; have hbel42 := belStore hbel32 hgw33 (gr0); clear hgw33; clear hbel32; have c2 : w33.cell? ⟨Gq, u, none⟩ = some (.int .u64 (q0 : Nat)) := (by have h := E38.out.nat u (by rw [LQW.out]; exact hu8); rw [HQ1.out] at h; exact h); have f2 := E38.out.free u))
                have nQ := E38.out.natSet u q2
                have h3 := HQ3.out
                rw [HQ5.out] at h3
                rw [h3] at nQ
                go_roundw
                case rel => exact ⟨s, by omega, by rw [HBH.out], (E34.out.other ⟨Gq, u, none⟩ (.int .u64 (q2 : Nat)) (nlq _ (by omega))), (E35.out.other ⟨Gq, u, none⟩ (.int .u64 (q2 : Nat)) (nlq _ (by omega))), (E36.out.other ⟨Gq, u, none⟩ (.int .u64 (q2 : Nat)) (nlq _ (by omega))), (E37.out.other ⟨Gq, u, none⟩ (.int .u64 (q2 : Nat)) (nlq _ (by omega))), by rw [← HP.out]; exact nQ, by rw [← HP.out]; exact (D41.out.other ⟨Gq, u, none⟩ (.int .u64 (q2 : Nat)) (Nat.ne_of_gt nr)), (hbel42.setCell (p := ⟨Gq, u, none⟩) gq0 (.int .u64 (q2 : Nat))), (E39.out.set ⟨Gq, u, none⟩ (.int .u64 (q2 : Nat)) ndq)⟩
                case measure => simp [intOf] <;> omega
              · as_aux_lemma =>
                rw [decide_eq_true hc] at HT
                rw [if_pos hc] at hq4
                obtain ⟨q2, hq2e⟩ : ∃ q, q = 2 * q0 := ⟨_, rfl⟩
                have r6 : IntKind.u64.wrap (2 * (q0 : Int)) = (q2 : Int) := by rw [hq2e, show (2 : Int) * (q0 : Int) = ((2 * q0 : Nat) : Int) by omega, u64_cut, Nat.mod_eq_of_lt (by omega)]
                have r7 : IntKind.u64.wrap ((q2 : Int) + 1) = (q1 : Int) := by rw [show (q2 : Int) + 1 = (q1 : Int) by omega, u64_cut, Nat.mod_eq_of_lt (by omega)]
                have hq5 : q1 = q2 + 1 := by omega
                have HQ5 := Lib.hid hq5
                clear hq5 hq4 hq2e hc
                go_wp2_with (first | (refine wpList_load_mid rfl 24 (.tmp 7) rfl Gr_ 0 rfl (natsV .u64 (RW (p + 1))) _ (blk_all (Kr.out)) Try.underlying24 rfl (i24 (LRW.out (p + 1))) ?_) | (refine wpList_load_mid rfl 24 (.tmp 3) rfl (w.heap.size + 1) 0 rfl (natsV .u64 lm) _ (blk_all (Km.out)) Try.underlying24 rfl (i24 L_lm.out) ?_))
                refine (HT.out _).mono ?_
                rintro e w12 ⟨rfl, hbw12⟩
                have C13 := Lib.hid (Kx.out.gr hbw12)
                clear Kx
                have C14 := Lib.hid (Km.out.gr hbw12)
                clear Km
                have C15 := Lib.hid (K4.out.gr hbw12)
                clear K4
                have C16 := Lib.hid (K5.out.gr hbw12)
                clear K5
                have C17 := Lib.hid (Kq.out.gr hbw12)
                clear Kq
                have C18 := Lib.hid (Kr.out.gr hbw12)
                clear Kr
                have C19 := Lib.hid (Kd.out.gr hbw12)
                clear Kd
                have hbel20 := hbel.trans (Below.mono hbw12 hbel.size)
                clear hbel
                clear hbw12
                go_wp2_with (first | (refine stB rfl 24 (.tmp 13) (.tmp 45) rfl w12.heap.size rfl (natsV .u64 (RW p)) rfl 24 (natsV .u64 (zeros 4)) (Blk.new w12 24 (natsV .u64 (zeros 4))) (i24 (LRW.out p)) (lenEq (show (natsV .u64 (zeros 4)).length = 4 from rfl) (by rw [natsV_length, (LRW.out p)])) (natsV_one _ _) ?_; generalize hW : World.setRow _ _ _ = w21; obtain ⟨hgw21, hnw21⟩ := newfacts hW; clear hW; have NE24 := Lib.hid (Nat.ne_of_lt (C18.out.lt)); have C25 := Lib.hid (C13.out.gr hgw21); clear C13; have C26 := Lib.hid (C14.out.gr hgw21); clear C14; have C27 := Lib.hid (C15.out.gr hgw21); clear C15; have C28 := Lib.hid (C16.out.gr hgw21); clear C16; have C29 := Lib.hid (C17.out.gr hgw21); clear C17; have C30 := Lib.hid (C18.out.gr hgw21); clear C18; have C31 := Lib.hid (C19.out.gr hgw21); clear C19; have hbel32 := hbel20.trans (Below.mono hgw21 hbel20.size); clear hbel20; have D23 := Lib.hid hnw21; have szw21 := hgw21.size; clear hnw21 hgw21 szw21; generalize w12.heap.size = G22 at *) | (refine wpList_load_mid rfl 24 (.tmp 13) rfl G22 0 rfl (natsV .u64 (RW p)) _ (blk_all (D23.out)) Try.underlying24 rfl (i24 (LRW.out p)) ?_) | (refine stB rfl 24 (.tmp 7) (.tmp 47) rfl Gr_ rfl (natsV .u64 (RW p)) rfl 24 (natsV .u64 (RW (p + 1))) C30.out (i24 (LRW.out p)) (lenEq (by rw [natsV_length, (LRW.out (p + 1))]) (by rw [natsV_length, (LRW.out p)])) (natsV_one _ _) ?_; generalize hW : World.setRow _ _ _ = w33; obtain ⟨hgw33, hnw33⟩ := setfacts hW C30.out; clear hW; have E34 := Lib.hid (C25.out.grown hgw33 (fun e => (nlr _ (by omega)) (Option.some.inj e))); clear C25; have E35 := Lib.hid (C26.out.grown hgw33 (fun e => (nlr _ (by omega)) (Option.some.inj e))); clear C26; have E36 := Lib.hid (C27.out.grown hgw33 (fun e => (nlr _ (by omega)) (Option.some.inj e))); clear C27; have E37 := Lib.hid (C28.out.grown hgw33 (fun e => (nlr _ (by omega)) (Option.some.inj e))); clear C28; have E38 := Lib.hid (C29.out.grown hgw33 (fun e => (Nat.ne_of_lt nr) (Option.some.inj e))); clear C29; have E39 := Lib.hid (C31.out.grown hgw33 (fun e => ndr (Option.some.inj e))); clear C31; have E40 := Lib.hid (D23.out.grown hgw33 (fun e => (Ne.symm NE24.out) (Option.some.inj e))); clear D23; have D41 := Lib.hid hnw33; clear hnw33 C30; have hbel42 := belStore hbel32 hgw33 (gr0); clear hgw33; clear hbel32; have c2 : w33.cell? ⟨Gq, u, none⟩ = some (.int .u64 (q0 : Nat)) := (by have h := E38.out.nat u (by rw [LQW.out]; exact hu8); rw [HQ1.out] at h; exact h); have f2 := E38.out.free u))
                have nQ := (E38.out.natSet u q2).natSet u q1
                rw [List.set_set, HQ3.out] at nQ
                go_roundw
                case rel => exact ⟨s, by omega, by rw [HBH.out], ((E34.out.other ⟨Gq, u, none⟩ (.int .u64 (q2 : Nat)) (nlq _ (by omega))).other ⟨Gq, u, none⟩ (.int .u64 (q1 : Nat)) (nlq _ (by omega))), ((E35.out.other ⟨Gq, u, none⟩ (.int .u64 (q2 : Nat)) (nlq _ (by omega))).other ⟨Gq, u, none⟩ (.int .u64 (q1 : Nat)) (nlq _ (by omega))), ((E36.out.other ⟨Gq, u, none⟩ (.int .u64 (q2 : Nat)) (nlq _ (by omega))).other ⟨Gq, u, none⟩ (.int .u64 (q1 : Nat)) (nlq _ (by omega))), ((E37.out.other ⟨Gq, u, none⟩ (.int .u64 (q2 : Nat)) (nlq _ (by omega))).other ⟨Gq, u, none⟩ (.int .u64 (q1 : Nat)) (nlq _ (by omega))), by rw [← HP.out]; exact nQ, by rw [← HP.out]; exact ((D41.out.other ⟨Gq, u, none⟩ (.int .u64 (q2 : Nat)) (Nat.ne_of_gt nr)).other ⟨Gq, u, none⟩ (.int .u64 (q1 : Nat)) (Nat.ne_of_gt nr)), ((hbel42.setCell (p := ⟨Gq, u, none⟩) gq0 (.int .u64 (q2 : Nat))).setCell (p := ⟨Gq, u, none⟩) gq0 (.int .u64 (q1 : Nat))), ((E39.out.set ⟨Gq, u, none⟩ (.int .u64 (q2 : Nat)) ndq).set ⟨Gq, u, none⟩ (.int .u64 (q1 : Nat)) ndq)⟩
                case measure => simp [intOf] <;> omega
end Go.Proofs.Ytfffmoolkgheaaa
