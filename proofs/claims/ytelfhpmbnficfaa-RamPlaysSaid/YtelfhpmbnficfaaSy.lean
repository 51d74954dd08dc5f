/- RamPlays: Load, Fetch, Peek. No condition. -/
import Derived.Test.YtelfhpmbnficfaaSt
import Derived.Test.YtelfhpmbnficfaaLa
import Derived.Test.YtelfhpmbnficfaaDf
import Derived.Test.YtelfhpmbnficfaaSh
namespace Go.Proofs.Ytelfhpmbnficfaa
open Go.RowKit
set_option linter.unusedVariables false
set_option maxRecDepth 100000
set_option linter.unusedSimpArgs false
theorem sub_ok {m : List Nat} (k : MOk m) (o s : Nat) : (∀ x ∈ (m.drop o).take s, x < 256) ∧ ((m.drop o).take s).length ≤ 65536 :=
  ⟨fun x hx => k.bd x (List.mem_of_mem_drop (List.mem_of_mem_take hx)), by rw [List.length_take, List.length_drop, k.ln]; omega⟩
theorem ldL_ok {m : List Nat} (k : MOk m) (t : List Reg) (sec : Bool) (ac : Int) (p s : Nat) : (∀ x ∈ ldL m t sec ac p s, x < 256) ∧ (ldL m t sec ac p s).length ≤ 65536 := by
  unfold ldL
  split
  · exact sub_ok k _ _
  · exact ⟨fun x hx => by simp at hx, by simp⟩
theorem pkL_ok {m : List Nat} (k : MOk m) (p s : Nat) : (∀ x ∈ pkL m p s, x < 256) ∧ (pkL m p s).length ≤ 65536 := by
  unfold pkL
  split
  · exact sub_ok k _ _
  · exact ⟨fun x hx => by simp at hx, by simp⟩
/-- the block of a row of the call's own -/
theorem own_blk3 {w : World} {B n c : Nat} {a : Option Addr} {l : List Nat} (h : w.ownsRow B 5 1 (.slice a n c) n (bytesV l)) : n = 0 ∨ ∃ g cs, a = some ⟨g, 0, none⟩ ∧ B ≤ g ∧ Blk w g 5 cs ∧ ∀ j, j < n → cs[j]? = some (.int .u8 (l.getD j 0 : Nat)) := by
  rcases h.2 with ⟨e, h0⟩ | ⟨g, cap, cur, e, hbg, hg, h1, h2, h3, h4⟩
  · exact .inl h0
  · injection e with e1 e2 e3
    subst e1 e3
    obtain ⟨hl, hc⟩ := own_cells h
    have hb : Blk w g 5 cur.toList := by unfold Blk; simpa using hg
    refine .inr ⟨g, cur.toList, rfl, hbg, hb, fun j hj => ?_⟩
    have := hc j hj
    rw [Nat.zero_add, hb.cell] at this
    exact this
set_option maxRecDepth 100000 in
set_option maxHeartbeats 12800000 in
theorem reads_6 (b s : Nat) (rd wrt ex sc sec : Bool) (ac : Int) (p z : Nat) (B : Option Addr) (n cb : Nat) (bl : List Nat) (base a r : Nat) (m : List Nat) (t : List Reg) (w : World) (h : Good base a r m t w) (hx : RFit ⟨b, s, rd, wrt, ex, sc⟩) (hac : I64 ac) (hp : U64 p) (hz : U64 z) (hB : ∀ W, Below base w W → BIn W B n cb bl) :
    Calls Try.prog 30 #[.pointer (some ⟨a, 0, none⟩), .pointer (some ⟨r, 0, none⟩), .agg #[.int .i64 6, .int .u64 (b : Nat), .int .u64 (s : Nat), .bool rd, .bool wrt, .bool ex, .bool sc, .bool sec, .int .i64 ac, .int .u64 (p : Nat), .int .u64 (z : Nat), .slice B n cb]] w (StepOk base a r w) := by
  have hg0 := Gr.alloc w (.cells #[.int .i64 6, .int .u64 (b : Nat), .int .u64 (s : Nat), .bool rd, .bool wrt, .bool ex, .bool sc, .bool sec, .int .i64 ac, .int .u64 (p : Nat), .int .u64 (z : Nat), .slice B n cb] 38)
  have HX := Lib.hid (Blk.new w 38 [.int .i64 6, .int .u64 (b : Nat), .int .u64 (s : Nat), .bool rd, .bool wrt, .bool ex, .bool sc, .bool sec, .int .i64 ac, .int .u64 (p : Nat), .int .u64 (z : Nat), .slice B n cb])
  have HG0 := Lib.hid hg0
  have HG := Lib.hid (h.grow hg0)
  have HSZ := Lib.hid h.sz
  have HFX := Lib.hid hx
  have HAC := Lib.hid hac
  have HPU := Lib.hid hp
  have HZU := Lib.hid hz
  have HBB := Lib.hid hB
  clear h hg0 hx hac hp hz hB
  go_enter Try.func30, Try.ntmps30
  go_upto_region 7 with (fail)
  obtain ⟨w1, hw1⟩ : ∃ w1, w.alloc (.cells #[.int .i64 6, .int .u64 (b : Nat), .int .u64 (s : Nat), .bool rd, .bool wrt, .bool ex, .bool sc, .bool sec, .int .i64 ac, .int .u64 (p : Nat), .int .u64 (z : Nat), .slice B n cb] 38) = w1 := ⟨_, rfl⟩
  try rw [hw1]
  have hw1' : w.alloc (.cells ([.int .i64 6, .int .u64 (b : Nat), .int .u64 (s : Nat), .bool rd, .bool wrt, .bool ex, .bool sc, .bool sec, .int .i64 ac, .int .u64 (p : Nat), .int .u64 (z : Nat), .slice B n cb] : List Value).toArray 38) = w1 := hw1
  rw [hw1] at HG0 HG
  rw [hw1'] at HX
  clear hw1 hw1'
  have HB1 := Lib.hid (show Below base w w1 from bel_gr ((HG0.out : Below w.heap.size w w1).mono HSZ.out) HG.out.sz (Gr.refl w1))
  have e7 : w1.cell? ⟨w.heap.size, 7, none⟩ = some (.bool sec) := (HX.out).cell 7
  have e9 : w1.cell? ⟨w.heap.size, 9, none⟩ = some (.int .u64 (p : Nat)) := (HX.out).cell 9
  have e10 : w1.cell? ⟨w.heap.size, 10, none⟩ = some (.int .u64 (z : Nat)) := (HX.out).cell 10
  obtain ⟨A1, c1, hpa⟩ := HG.out.pa
  obtain ⟨A2, c2, hra⟩ := HG.out.ra
  have HP1 := Lib.hid hpa
  have HR1 := Lib.hid hra
  have hc := load_any base a p z sec m t A1 c1 w1 hpa HG.out.km HG.out.kt HPU.out HZU.out
  obtain ⟨hlb, hln⟩ := ldL_ok HG.out.km t sec 1 p z
  obtain ⟨E, hE⟩ : ∃ E, mayE t sec 1 p z = E := ⟨_, rfl⟩
  obtain ⟨L, hL⟩ : ∃ L, ldL m t sec 1 p z = L := ⟨_, rfl⟩
  rw [hE, hL] at hc
  rw [hL] at hlb hln
  have HLB := Lib.hid hlb
  have HE := Lib.hid hE
  have HL := Lib.hid hL
  have HC := Lib.hid hc
  clear hpa hra hc hlb hE hL
  go_wp2_with fail
  refine HC.out.mono ?_
  rintro e w2 ⟨ax, cx, rfl, hox, hb2⟩
  have HR2 := Lib.hid (HR1.out.bel hb2)
  have HP2 := Lib.hid (HP1.out.bel hb2)
  have HB2 := Lib.hid (bel_gr HB1.out HG.out.sz hb2)
  have HS2 := Lib.hid (Nat.le_trans HG.out.sz hb2.size)
  have HX2 := Lib.hid (HX.out.gr hb2)
  have HOX := Lib.hid hox
  have hc := rload_any base r p z sec 1 m t A2 c2 w2 HR2.out HG.out.km HG.out.kt HPU.out HZU.out (by unfold I64; omega)
  rw [HE.out, HL.out] at hc
  have HC2 := Lib.hid hc
  have k7 : w2.cell? ⟨w.heap.size, 7, none⟩ = some (.bool sec) := HX2.out.cell 7
  have k9 : w2.cell? ⟨w.heap.size, 9, none⟩ = some (.int .u64 (p : Nat)) := HX2.out.cell 9
  have k10 : w2.cell? ⟨w.heap.size, 10, none⟩ = some (.int .u64 (z : Nat)) := HX2.out.cell 10
  obtain ⟨n9, hn9⟩ : ∃ n9, L.length = n9 := ⟨_, rfl⟩
  rw [hn9] at HOX hln
  unfold RdIs at HC2
  rw [hn9] at HC2 ⊢
  clear hox hb2 hc HC e7 e9 e10 hn9
  go_wp2_with fail
  refine HC2.out.mono ?_
  rintro e w3 ⟨ay, cy, rfl, hoy, hb3⟩
  have HR3 := Lib.hid (HR2.out.bel hb3)
  have HP3 := Lib.hid (HP2.out.bel hb3)
  have HB3 := Lib.hid (bel_gr HB2.out HS2.out hb3)
  have HS3 := Lib.hid (Nat.le_trans HS2.out hb3.size)
  have hox3 := own_below HOX.out hb3
  obtain ⟨_, _, ex, hbx, _⟩ := own_in hox3 HLB.out (by omega)
  injection ex with ex1 ex2 ex3
  subst ex1 ex3
  obtain ⟨_, _, ey, hby, _⟩ := own_in hoy HLB.out (by omega)
  injection ey with ey1 ey2 ey3
  subst ey1 ey3
  have HS := Lib.hid (sameB_any w3 _ _ _ _ _ _ L L hbx hby)
  have HOX3 := Lib.hid hox3
  rw [show decide (L = L) = true from by simp] at HS
  clear hox3 hoy hb3 hbx hby ex2 ey2 HC2 k7 k9 k10
  go_wp2_with fail
  refine HS.out.mono ?_
  rintro e w5 ⟨rfl, hb5⟩
  have HP5 := Lib.hid (HP3.out.bel hb5)
  have HR5 := Lib.hid (HR3.out.bel hb5)
  have HB5 := Lib.hid (bel_gr HB3.out HS3.out hb5)
  have HO5 := Lib.hid (own_blk3 (own_below HOX3.out hb5))
  have HSZF := Lib.hid (fun (wq : World) (h : Below base w wq) => (h.size : w.heap.size ≤ wq.heap.size))
  clear hb5 HS
  have HSW := Lib.hid HSZ.out
  clear HSZF
  go_wp2_with fail
  go_loopw [12] (fun v12 wk => ∃ k : Nat, v12 = .int .i64 (k : Nat) ∧ k ≤ n9 ∧ PAt wk base a m t A1 c1 ∧ RAt wk base r m t A2 c2 ∧ Below base w wk ∧ (n9 = 0 ∨ ∃ g cs, ax = some ⟨g, 0, none⟩ ∧ w1.heap.size ≤ g ∧ Blk wk g 5 cs ∧ ∀ j, k ≤ j → j < n9 → cs[j]? = some (.int .u8 (L.getD j 0 : Nat)))) (fun v12 _ => n9 - (intOf v12).toNat)
  case atStart => exact ⟨0, rfl, Nat.zero_le _, HP5.out, HR5.out, HB5.out, by
    rcases HO5.out with h0 | ⟨g, cs, h1, h2, h3, h4⟩
    · exact .inl h0
    · exact .inr ⟨g, cs, h1, h2, h3, fun j _ hj => h4 j hj⟩⟩
  case round =>
    obtain ⟨k, rfl, hk, hpk, hrk, hbk, hrow⟩ := hrel
    have HPK := Lib.hid hpk
    have HRK := Lib.hid hrk
    have HBK := Lib.hid hbk
    clear hpk hrk hbk HP5 HR5 HB5 HO5
    by_cases hkn : k < n9
    · have hkI : (k : Int) < (n9 : Int) := by omega
      obtain ⟨g, cs, rfl, hg, hb, hcs⟩ := hrow.resolve_left (by omega)
      have h5 := hcs k (Nat.le_refl _) hkn
      have e5 : wr.cell? ⟨g, k, none⟩ = some (.int .u8 (L.getD k 0 : Nat)) := by rw [hb.cell]; exact h5
      have f5 := hb.free k
      have HB := Lib.hid hb
      have HCS := Lib.hid hcs
      have HGE := Lib.hid hg
      have HSK := Lib.hid (show base ≤ wr.heap.size from Nat.le_trans HG.out.sz (Nat.le_trans hg (Nat.le_of_lt (Blk.lt hb))))
      clear hrow hb hcs h5 hg
      go_wp2_with fail
      go_roundw
      case rel => exact ⟨k + 1, by go_num, hkn, HP1.out.held HPK.out (grown_setCell wr ⟨g, k, none⟩ _) HGE.out, HR1.out.held HRK.out (grown_setCell wr ⟨g, k, none⟩ _) HGE.out, below_grown HBK.out (grown_setCell wr ⟨g, k, none⟩ _) (Nat.le_trans HG.out.sz HGE.out) HSK.out, .inr ⟨g, _, rfl, HGE.out, HB.out.set k _, fun j hj hjm => by rw [List.getElem?_set_ne (by omega)]; exact HCS.out j (by omega) hjm⟩⟩
      case measure => simp [intOf]; omega
    · obtain rfl : k = n9 := by omega
      clear hrow hkn
      go_wp2_with fail
      go_ret
      exact ⟨by simp, ⟨m, t, ⟨A1, c1, HPK.out⟩, ⟨A2, c2, HRK.out⟩, HG.out.km, HG.out.kt, HG.out.ha, HG.out.hr, Nat.le_trans HSW.out HBK.out.size⟩, HBK.out⟩
set_option maxRecDepth 100000 in
set_option maxHeartbeats 12800000 in
theorem reads_8 (b s : Nat) (rd wrt ex sc sec : Bool) (ac : Int) (p z : Nat) (B : Option Addr) (n cb : Nat) (bl : List Nat) (base a r : Nat) (m : List Nat) (t : List Reg) (w : World) (h : Good base a r m t w) (hx : RFit ⟨b, s, rd, wrt, ex, sc⟩) (hac : I64 ac) (hp : U64 p) (hz : U64 z) (hB : ∀ W, Below base w W → BIn W B n cb bl) :
    Calls Try.prog 30 #[.pointer (some ⟨a, 0, none⟩), .pointer (some ⟨r, 0, none⟩), .agg #[.int .i64 8, .int .u64 (b : Nat), .int .u64 (s : Nat), .bool rd, .bool wrt, .bool ex, .bool sc, .bool sec, .int .i64 ac, .int .u64 (p : Nat), .int .u64 (z : Nat), .slice B n cb]] w (StepOk base a r w) := by
  have hg0 := Gr.alloc w (.cells #[.int .i64 8, .int .u64 (b : Nat), .int .u64 (s : Nat), .bool rd, .bool wrt, .bool ex, .bool sc, .bool sec, .int .i64 ac, .int .u64 (p : Nat), .int .u64 (z : Nat), .slice B n cb] 38)
  have HX := Lib.hid (Blk.new w 38 [.int .i64 8, .int .u64 (b : Nat), .int .u64 (s : Nat), .bool rd, .bool wrt, .bool ex, .bool sc, .bool sec, .int .i64 ac, .int .u64 (p : Nat), .int .u64 (z : Nat), .slice B n cb])
  have HG0 := Lib.hid hg0
  have HG := Lib.hid (h.grow hg0)
  have HSZ := Lib.hid h.sz
  have HFX := Lib.hid hx
  have HAC := Lib.hid hac
  have HPU := Lib.hid hp
  have HZU := Lib.hid hz
  have HBB := Lib.hid hB
  clear h hg0 hx hac hp hz hB
  go_enter Try.func30, Try.ntmps30
  go_upto_region 10 with (fail)
  obtain ⟨w1, hw1⟩ : ∃ w1, w.alloc (.cells #[.int .i64 8, .int .u64 (b : Nat), .int .u64 (s : Nat), .bool rd, .bool wrt, .bool ex, .bool sc, .bool sec, .int .i64 ac, .int .u64 (p : Nat), .int .u64 (z : Nat), .slice B n cb] 38) = w1 := ⟨_, rfl⟩
  try rw [hw1]
  have hw1' : w.alloc (.cells ([.int .i64 8, .int .u64 (b : Nat), .int .u64 (s : Nat), .bool rd, .bool wrt, .bool ex, .bool sc, .bool sec, .int .i64 ac, .int .u64 (p : Nat), .int .u64 (z : Nat), .slice B n cb] : List Value).toArray 38) = w1 := hw1
  rw [hw1] at HG0 HG
  rw [hw1'] at HX
  clear hw1 hw1'
  have HB1 := Lib.hid (show Below base w w1 from bel_gr ((HG0.out : Below w.heap.size w w1).mono HSZ.out) HG.out.sz (Gr.refl w1))
  have e7 : w1.cell? ⟨w.heap.size, 7, none⟩ = some (.bool sec) := (HX.out).cell 7
  have e9 : w1.cell? ⟨w.heap.size, 9, none⟩ = some (.int .u64 (p : Nat)) := (HX.out).cell 9
  have e10 : w1.cell? ⟨w.heap.size, 10, none⟩ = some (.int .u64 (z : Nat)) := (HX.out).cell 10
  obtain ⟨A1, c1, hpa⟩ := HG.out.pa
  obtain ⟨A2, c2, hra⟩ := HG.out.ra
  have HP1 := Lib.hid hpa
  have HR1 := Lib.hid hra
  have hc := fetch_any base a p z sec m t A1 c1 w1 hpa HG.out.km HG.out.kt HPU.out HZU.out
  obtain ⟨hlb, hln⟩ := ldL_ok HG.out.km t sec 3 p z
  obtain ⟨E, hE⟩ : ∃ E, mayE t sec 3 p z = E := ⟨_, rfl⟩
  obtain ⟨L, hL⟩ : ∃ L, ldL m t sec 3 p z = L := ⟨_, rfl⟩
  rw [hE, hL] at hc
  rw [hL] at hlb hln
  have HLB := Lib.hid hlb
  have HE := Lib.hid hE
  have HL := Lib.hid hL
  have HC := Lib.hid hc
  clear hpa hra hc hlb hE hL
  go_wp2_with fail
  refine HC.out.mono ?_
  rintro e w2 ⟨ax, cx, rfl, hox, hb2⟩
  have HR2 := Lib.hid (HR1.out.bel hb2)
  have HP2 := Lib.hid (HP1.out.bel hb2)
  have HB2 := Lib.hid (bel_gr HB1.out HG.out.sz hb2)
  have HS2 := Lib.hid (Nat.le_trans HG.out.sz hb2.size)
  have HX2 := Lib.hid (HX.out.gr hb2)
  have HOX := Lib.hid hox
  have hc := rload_any base r p z sec 3 m t A2 c2 w2 HR2.out HG.out.km HG.out.kt HPU.out HZU.out (by unfold I64; omega)
  rw [HE.out, HL.out] at hc
  have HC2 := Lib.hid hc
  have k7 : w2.cell? ⟨w.heap.size, 7, none⟩ = some (.bool sec) := HX2.out.cell 7
  have k9 : w2.cell? ⟨w.heap.size, 9, none⟩ = some (.int .u64 (p : Nat)) := HX2.out.cell 9
  have k10 : w2.cell? ⟨w.heap.size, 10, none⟩ = some (.int .u64 (z : Nat)) := HX2.out.cell 10
  obtain ⟨n9, hn9⟩ : ∃ n9, L.length = n9 := ⟨_, rfl⟩
  rw [hn9] at HOX hln
  unfold RdIs at HC2
  rw [hn9] at HC2 ⊢
  clear hox hb2 hc HC e7 e9 e10 hn9
  go_wp2_with fail
  refine HC2.out.mono ?_
  rintro e w3 ⟨ay, cy, rfl, hoy, hb3⟩
  have HR3 := Lib.hid (HR2.out.bel hb3)
  have HP3 := Lib.hid (HP2.out.bel hb3)
  have HB3 := Lib.hid (bel_gr HB2.out HS2.out hb3)
  have HS3 := Lib.hid (Nat.le_trans HS2.out hb3.size)
  have hox3 := own_below HOX.out hb3
  obtain ⟨_, _, ex, hbx, _⟩ := own_in hox3 HLB.out (by omega)
  injection ex with ex1 ex2 ex3
  subst ex1 ex3
  obtain ⟨_, _, ey, hby, _⟩ := own_in hoy HLB.out (by omega)
  injection ey with ey1 ey2 ey3
  subst ey1 ey3
  have HS := Lib.hid (sameB_any w3 _ _ _ _ _ _ L L hbx hby)
  have HOX3 := Lib.hid hox3
  rw [show decide (L = L) = true from by simp] at HS
  clear hox3 hoy hb3 hbx hby ex2 ey2 HC2 k7 k9 k10
  go_wp2_with fail
  refine HS.out.mono ?_
  rintro e w5 ⟨rfl, hb5⟩
  have HP5 := Lib.hid (HP3.out.bel hb5)
  have HR5 := Lib.hid (HR3.out.bel hb5)
  have HB5 := Lib.hid (bel_gr HB3.out HS3.out hb5)
  have HO5 := Lib.hid (own_blk3 (own_below HOX3.out hb5))
  have HSZF := Lib.hid (fun (wq : World) (h : Below base w wq) => (h.size : w.heap.size ≤ wq.heap.size))
  clear hb5 HS
  have HSW := Lib.hid HSZ.out
  clear HSZF
  go_wp2_with fail
  go_loopw [12] (fun v12 wk => ∃ k : Nat, v12 = .int .i64 (k : Nat) ∧ k ≤ n9 ∧ PAt wk base a m t A1 c1 ∧ RAt wk base r m t A2 c2 ∧ Below base w wk ∧ (n9 = 0 ∨ ∃ g cs, ax = some ⟨g, 0, none⟩ ∧ w1.heap.size ≤ g ∧ Blk wk g 5 cs ∧ ∀ j, k ≤ j → j < n9 → cs[j]? = some (.int .u8 (L.getD j 0 : Nat)))) (fun v12 _ => n9 - (intOf v12).toNat)
  case atStart => exact ⟨0, rfl, Nat.zero_le _, HP5.out, HR5.out, HB5.out, by
    rcases HO5.out with h0 | ⟨g, cs, h1, h2, h3, h4⟩
    · exact .inl h0
    · exact .inr ⟨g, cs, h1, h2, h3, fun j _ hj => h4 j hj⟩⟩
  case round =>
    obtain ⟨k, rfl, hk, hpk, hrk, hbk, hrow⟩ := hrel
    have HPK := Lib.hid hpk
    have HRK := Lib.hid hrk
    have HBK := Lib.hid hbk
    clear hpk hrk hbk HP5 HR5 HB5 HO5
    by_cases hkn : k < n9
    · have hkI : (k : Int) < (n9 : Int) := by omega
      obtain ⟨g, cs, rfl, hg, hb, hcs⟩ := hrow.resolve_left (by omega)
      have h5 := hcs k (Nat.le_refl _) hkn
      have e5 : wr.cell? ⟨g, k, none⟩ = some (.int .u8 (L.getD k 0 : Nat)) := by rw [hb.cell]; exact h5
      have f5 := hb.free k
      have HB := Lib.hid hb
      have HCS := Lib.hid hcs
      have HGE := Lib.hid hg
      have HSK := Lib.hid (show base ≤ wr.heap.size from Nat.le_trans HG.out.sz (Nat.le_trans hg (Nat.le_of_lt (Blk.lt hb))))
      clear hrow hb hcs h5 hg
      go_wp2_with fail
      go_roundw
      case rel => exact ⟨k + 1, by go_num, hkn, HP1.out.held HPK.out (grown_setCell wr ⟨g, k, none⟩ _) HGE.out, HR1.out.held HRK.out (grown_setCell wr ⟨g, k, none⟩ _) HGE.out, below_grown HBK.out (grown_setCell wr ⟨g, k, none⟩ _) (Nat.le_trans HG.out.sz HGE.out) HSK.out, .inr ⟨g, _, rfl, HGE.out, HB.out.set k _, fun j hj hjm => by rw [List.getElem?_set_ne (by omega)]; exact HCS.out j (by omega) hjm⟩⟩
      case measure => simp [intOf]; omega
    · obtain rfl : k = n9 := by omega
      clear hrow hkn
      go_wp2_with fail
      go_ret
      exact ⟨by simp, ⟨m, t, ⟨A1, c1, HPK.out⟩, ⟨A2, c2, HRK.out⟩, HG.out.km, HG.out.kt, HG.out.ha, HG.out.hr, Nat.le_trans HSW.out HBK.out.size⟩, HBK.out⟩
set_option maxRecDepth 100000 in
set_option maxHeartbeats 12800000 in
theorem reads_10 (b s : Nat) (rd wrt ex sc sec : Bool) (ac : Int) (p z : Nat) (B : Option Addr) (n cb : Nat) (bl : List Nat) (base a r : Nat) (m : List Nat) (t : List Reg) (w : World) (h : Good base a r m t w) (hx : RFit ⟨b, s, rd, wrt, ex, sc⟩) (hac : I64 ac) (hp : U64 p) (hz : U64 z) (hB : ∀ W, Below base w W → BIn W B n cb bl) :
    Calls Try.prog 30 #[.pointer (some ⟨a, 0, none⟩), .pointer (some ⟨r, 0, none⟩), .agg #[.int .i64 10, .int .u64 (b : Nat), .int .u64 (s : Nat), .bool rd, .bool wrt, .bool ex, .bool sc, .bool sec, .int .i64 ac, .int .u64 (p : Nat), .int .u64 (z : Nat), .slice B n cb]] w (StepOk base a r w) := by
  have hg0 := Gr.alloc w (.cells #[.int .i64 10, .int .u64 (b : Nat), .int .u64 (s : Nat), .bool rd, .bool wrt, .bool ex, .bool sc, .bool sec, .int .i64 ac, .int .u64 (p : Nat), .int .u64 (z : Nat), .slice B n cb] 38)
  have HX := Lib.hid (Blk.new w 38 [.int .i64 10, .int .u64 (b : Nat), .int .u64 (s : Nat), .bool rd, .bool wrt, .bool ex, .bool sc, .bool sec, .int .i64 ac, .int .u64 (p : Nat), .int .u64 (z : Nat), .slice B n cb])
  have HG0 := Lib.hid hg0
  have HG := Lib.hid (h.grow hg0)
  have HSZ := Lib.hid h.sz
  have HFX := Lib.hid hx
  have HAC := Lib.hid hac
  have HPU := Lib.hid hp
  have HZU := Lib.hid hz
  have HBB := Lib.hid hB
  clear h hg0 hx hac hp hz hB
  go_enter Try.func30, Try.ntmps30
  go_upto_region 13 with (fail)
  obtain ⟨w1, hw1⟩ : ∃ w1, w.alloc (.cells #[.int .i64 10, .int .u64 (b : Nat), .int .u64 (s : Nat), .bool rd, .bool wrt, .bool ex, .bool sc, .bool sec, .int .i64 ac, .int .u64 (p : Nat), .int .u64 (z : Nat), .slice B n cb] 38) = w1 := ⟨_, rfl⟩
  try rw [hw1]
  have hw1' : w.alloc (.cells ([.int .i64 10, .int .u64 (b : Nat), .int .u64 (s : Nat), .bool rd, .bool wrt, .bool ex, .bool sc, .bool sec, .int .i64 ac, .int .u64 (p : Nat), .int .u64 (z : Nat), .slice B n cb] : List Value).toArray 38) = w1 := hw1
  rw [hw1] at HG0 HG
  rw [hw1'] at HX
  clear hw1 hw1'
  have HB1 := Lib.hid (show Below base w w1 from bel_gr ((HG0.out : Below w.heap.size w w1).mono HSZ.out) HG.out.sz (Gr.refl w1))
  have e7 : w1.cell? ⟨w.heap.size, 7, none⟩ = some (.bool sec) := (HX.out).cell 7
  have e9 : w1.cell? ⟨w.heap.size, 9, none⟩ = some (.int .u64 (p : Nat)) := (HX.out).cell 9
  have e10 : w1.cell? ⟨w.heap.size, 10, none⟩ = some (.int .u64 (z : Nat)) := (HX.out).cell 10
  obtain ⟨A1, c1, hpa⟩ := HG.out.pa
  obtain ⟨A2, c2, hra⟩ := HG.out.ra
  have HP1 := Lib.hid hpa
  have HR1 := Lib.hid hra
  have hc := peek_any base a p z m t A1 c1 w1 hpa HG.out.km HPU.out HZU.out
  obtain ⟨hlb, hln⟩ := pkL_ok HG.out.km p z
  obtain ⟨E, hE⟩ : ∃ E, clE p z = E := ⟨_, rfl⟩
  obtain ⟨L, hL⟩ : ∃ L, pkL m p z = L := ⟨_, rfl⟩
  rw [hE, hL] at hc
  rw [hL] at hlb hln
  have HLB := Lib.hid hlb
  have HE := Lib.hid hE
  have HL := Lib.hid hL
  have HC := Lib.hid hc
  clear hpa hra hc hlb hE hL
  go_wp2_with fail
  refine HC.out.mono ?_
  rintro e w2 ⟨ax, cx, rfl, hox, hb2⟩
  have HR2 := Lib.hid (HR1.out.bel hb2)
  have HP2 := Lib.hid (HP1.out.bel hb2)
  have HB2 := Lib.hid (bel_gr HB1.out HG.out.sz hb2)
  have HS2 := Lib.hid (Nat.le_trans HG.out.sz hb2.size)
  have HX2 := Lib.hid (HX.out.gr hb2)
  have HOX := Lib.hid hox
  have hc := rpeek_any base r p z m t A2 c2 w2 HR2.out HG.out.km HPU.out HZU.out
  rw [HE.out, HL.out] at hc
  have HC2 := Lib.hid hc
  have k7 : w2.cell? ⟨w.heap.size, 7, none⟩ = some (.bool sec) := HX2.out.cell 7
  have k9 : w2.cell? ⟨w.heap.size, 9, none⟩ = some (.int .u64 (p : Nat)) := HX2.out.cell 9
  have k10 : w2.cell? ⟨w.heap.size, 10, none⟩ = some (.int .u64 (z : Nat)) := HX2.out.cell 10
  obtain ⟨n9, hn9⟩ : ∃ n9, L.length = n9 := ⟨_, rfl⟩
  rw [hn9] at HOX hln
  unfold RdIs at HC2
  rw [hn9] at HC2 ⊢
  clear hox hb2 hc HC e7 e9 e10 hn9
  go_wp2_with fail
  refine HC2.out.mono ?_
  rintro e w3 ⟨ay, cy, rfl, hoy, hb3⟩
  have HR3 := Lib.hid (HR2.out.bel hb3)
  have HP3 := Lib.hid (HP2.out.bel hb3)
  have HB3 := Lib.hid (bel_gr HB2.out HS2.out hb3)
  have HS3 := Lib.hid (Nat.le_trans HS2.out hb3.size)
  have hox3 := own_below HOX.out hb3
  obtain ⟨_, _, ex, hbx, _⟩ := own_in hox3 HLB.out (by omega)
  injection ex with ex1 ex2 ex3
  subst ex1 ex3
  obtain ⟨_, _, ey, hby, _⟩ := own_in hoy HLB.out (by omega)
  injection ey with ey1 ey2 ey3
  subst ey1 ey3
  have HS := Lib.hid (sameB_any w3 _ _ _ _ _ _ L L hbx hby)
  have HOX3 := Lib.hid hox3
  rw [show decide (L = L) = true from by simp] at HS
  clear hox3 hoy hb3 hbx hby ex2 ey2 HC2 k7 k9 k10
  go_wp2_with fail
  refine HS.out.mono ?_
  rintro e w5 ⟨rfl, hb5⟩
  have HP5 := Lib.hid (HP3.out.bel hb5)
  have HR5 := Lib.hid (HR3.out.bel hb5)
  have HB5 := Lib.hid (bel_gr HB3.out HS3.out hb5)
  have HO5 := Lib.hid (own_blk3 (own_below HOX3.out hb5))
  have HSZF := Lib.hid (fun (wq : World) (h : Below base w wq) => (h.size : w.heap.size ≤ wq.heap.size))
  clear hb5 HS
  have HSW := Lib.hid HSZ.out
  clear HSZF
  go_wp2_with fail
  go_loopw [12] (fun v12 wk => ∃ k : Nat, v12 = .int .i64 (k : Nat) ∧ k ≤ n9 ∧ PAt wk base a m t A1 c1 ∧ RAt wk base r m t A2 c2 ∧ Below base w wk ∧ (n9 = 0 ∨ ∃ g cs, ax = some ⟨g, 0, none⟩ ∧ w1.heap.size ≤ g ∧ Blk wk g 5 cs ∧ ∀ j, k ≤ j → j < n9 → cs[j]? = some (.int .u8 (L.getD j 0 : Nat)))) (fun v12 _ => n9 - (intOf v12).toNat)
  case atStart => exact ⟨0, rfl, Nat.zero_le _, HP5.out, HR5.out, HB5.out, by
    rcases HO5.out with h0 | ⟨g, cs, h1, h2, h3, h4⟩
    · exact .inl h0
    · exact .inr ⟨g, cs, h1, h2, h3, fun j _ hj => h4 j hj⟩⟩
  case round =>
    obtain ⟨k, rfl, hk, hpk, hrk, hbk, hrow⟩ := hrel
    have HPK := Lib.hid hpk
    have HRK := Lib.hid hrk
    have HBK := Lib.hid hbk
    clear hpk hrk hbk HP5 HR5 HB5 HO5
    by_cases hkn : k < n9
    · have hkI : (k : Int) < (n9 : Int) := by omega
      obtain ⟨g, cs, rfl, hg, hb, hcs⟩ := hrow.resolve_left (by omega)
      have h5 := hcs k (Nat.le_refl _) hkn
      have e5 : wr.cell? ⟨g, k, none⟩ = some (.int .u8 (L.getD k 0 : Nat)) := by rw [hb.cell]; exact h5
      have f5 := hb.free k
      have HB := Lib.hid hb
      have HCS := Lib.hid hcs
      have HGE := Lib.hid hg
      have HSK := Lib.hid (show base ≤ wr.heap.size from Nat.le_trans HG.out.sz (Nat.le_trans hg (Nat.le_of_lt (Blk.lt hb))))
      clear hrow hb hcs h5 hg
      go_wp2_with fail
      go_roundw
      case rel => exact ⟨k + 1, by go_num, hkn, HP1.out.held HPK.out (grown_setCell wr ⟨g, k, none⟩ _) HGE.out, HR1.out.held HRK.out (grown_setCell wr ⟨g, k, none⟩ _) HGE.out, below_grown HBK.out (grown_setCell wr ⟨g, k, none⟩ _) (Nat.le_trans HG.out.sz HGE.out) HSK.out, .inr ⟨g, _, rfl, HGE.out, HB.out.set k _, fun j hj hjm => by rw [List.getElem?_set_ne (by omega)]; exact HCS.out j (by omega) hjm⟩⟩
      case measure => simp [intOf]; omega
    · obtain rfl : k = n9 := by omega
      clear hrow hkn
      go_wp2_with fail
      go_ret
      exact ⟨by simp, ⟨m, t, ⟨A1, c1, HPK.out⟩, ⟨A2, c2, HRK.out⟩, HG.out.km, HG.out.kt, HG.out.ha, HG.out.hr, Nat.le_trans HSW.out HBK.out.size⟩, HBK.out⟩
set_option maxRecDepth 100000 in
set_option maxHeartbeats 12800000 in
theorem reads_0 (kd : Int) (b s : Nat) (rd wrt ex sc sec : Bool) (ac : Int) (p z : Nat) (B : Option Addr) (n cb : Nat) (bl : List Nat) (base a r : Nat) (m : List Nat) (t : List Reg) (w : World) (h : Good base a r m t w) (hx : RFit ⟨b, s, rd, wrt, ex, sc⟩) (hac : I64 ac) (hp : U64 p) (hz : U64 z) (hB : ∀ W, Below base w W → BIn W B n cb bl) (hk6 : kd ≠ 6) (hk8 : kd ≠ 8) (hk10 : kd ≠ 10) :
    Calls Try.prog 30 #[.pointer (some ⟨a, 0, none⟩), .pointer (some ⟨r, 0, none⟩), .agg #[.int .i64 kd, .int .u64 (b : Nat), .int .u64 (s : Nat), .bool rd, .bool wrt, .bool ex, .bool sc, .bool sec, .int .i64 ac, .int .u64 (p : Nat), .int .u64 (z : Nat), .slice B n cb]] w (StepOk base a r w) := by
  have t6 : (kd == 6) = false := by simpa using hk6
  have t8 : (kd == 8) = false := by simpa using hk8
  have t10 : (kd == 10) = false := by simpa using hk10
  clear hk6 hk8 hk10
  have hg0 := Gr.alloc w (.cells #[.int .i64 kd, .int .u64 (b : Nat), .int .u64 (s : Nat), .bool rd, .bool wrt, .bool ex, .bool sc, .bool sec, .int .i64 ac, .int .u64 (p : Nat), .int .u64 (z : Nat), .slice B n cb] 38)
  have HX := Lib.hid (Blk.new w 38 [.int .i64 kd, .int .u64 (b : Nat), .int .u64 (s : Nat), .bool rd, .bool wrt, .bool ex, .bool sc, .bool sec, .int .i64 ac, .int .u64 (p : Nat), .int .u64 (z : Nat), .slice B n cb])
  have HG0 := Lib.hid hg0
  have HG := Lib.hid (h.grow hg0)
  have HSZ := Lib.hid h.sz
  have HFX := Lib.hid hx
  have HAC := Lib.hid hac
  have HPU := Lib.hid hp
  have HZU := Lib.hid hz
  have HBB := Lib.hid hB
  clear h hg0 hx hac hp hz hB
  go_enter Try.func30, Try.ntmps30
  go_upto_region 6 with (fail)
  obtain ⟨w1, hw1⟩ : ∃ w1, w.alloc (.cells #[.int .i64 kd, .int .u64 (b : Nat), .int .u64 (s : Nat), .bool rd, .bool wrt, .bool ex, .bool sc, .bool sec, .int .i64 ac, .int .u64 (p : Nat), .int .u64 (z : Nat), .slice B n cb] 38) = w1 := ⟨_, rfl⟩
  try rw [hw1]
  have hw1' : w.alloc (.cells ([.int .i64 kd, .int .u64 (b : Nat), .int .u64 (s : Nat), .bool rd, .bool wrt, .bool ex, .bool sc, .bool sec, .int .i64 ac, .int .u64 (p : Nat), .int .u64 (z : Nat), .slice B n cb] : List Value).toArray 38) = w1 := hw1
  rw [hw1] at HG0 HG
  rw [hw1'] at HX
  clear hw1 hw1'
  have HB1 := Lib.hid (show Below base w w1 from bel_gr ((HG0.out : Below w.heap.size w w1).mono HSZ.out) HG.out.sz (Gr.refl w1))
  have HS := Lib.hid (sameB_any w1 none none 0 0 0 0 [] [] (bin_empty w1 none 0 (Nat.zero_le _) (fun _ => rfl)) (bin_empty w1 none 0 (Nat.zero_le _) (fun _ => rfl)))
  rw [show decide (([] : List Nat) = []) = true from by simp] at HS
  go_wp2_with fail
  refine HS.out.mono ?_
  rintro e w4 ⟨rfl, hb4⟩
  have HFIN := Lib.hid (HG.out.grow hb4)
  have HBF := Lib.hid (bel_gr HB1.out HG.out.sz hb4)
  clear hb4
  go_wp2_with fail
  go_loopw [12] (fun v12 wk => v12 = .int .i64 0 ∧ w4 = wk) (fun _ _ => 0)
  case atStart => exact ⟨rfl, rfl⟩
  case round =>
    obtain ⟨rfl, rfl⟩ := hrel
    go_wp2_with fail
    go_ret
    exact ⟨by simp, ⟨m, t, HFIN.out⟩, HBF.out⟩
end Go.Proofs.Ytelfhpmbnficfaa
