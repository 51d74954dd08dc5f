/- The document's Add. No condition. -/
import Derived.Test.YtelfhpmbnficfaaDr
import Derived.Test.YtelfhpmbnficfaaDf
namespace Go.Proofs.Ytelfhpmbnficfaa
open Go.RowKit
set_option linter.unusedVariables false
set_option maxRecDepth 100000
set_option linter.unusedSimpArgs false
theorem rin_one (w : World) (x : Reg) : RIn (w.alloc (.cells (regD x).toArray 34)) (some ⟨w.heap.size, 0, none⟩) 1 1 [x] :=
  ⟨rfl, (fun e => by cases e), .inr ⟨w.heap.size, 0, rfl, by
    have := blk_all (Blk.new w 34 (regD x))
    rwa [show regD x = cellsD [x] by simp [cellsD]] at this⟩⟩
theorem meet_has (y x : Reg) (h1 : 0 < y.n) (h2 : 0 < x.n) : (hasB y x.b || hasB x y.b) = meetB y x := by
  unfold hasB meetB
  rw [Bool.eq_iff_iff]
  simp only [Bool.or_eq_true, decide_eq_true_eq]
  omega
set_option maxHeartbeats 6400000 in
theorem radd_many (base a b s : Nat) (rd wrt ex sc : Bool) (m : List Nat) (t : List Reg) (A : Option Addr) (c : Nat) (w : World) (hp : RAt w base a m t A c) (km : MOk m) (kt : TOk t) (h16 : t.length = 16) :
    Calls Try.prog 24 #[.pointer (some ⟨a, 0, none⟩), .agg #[.int .u64 (b : Nat), .int .u64 (s : Nat), .bool rd, .bool wrt, .bool ex, .bool sc]] w (DDone base a (.int .i64 164) m t w) := by
  have HP := Lib.hid hp
  have hg := Gr.alloc w (.cells #[.int .u64 (b : Nat), .int .u64 (s : Nat), .bool rd, .bool wrt, .bool ex, .bool sc] 34)
  have ht := (hp.bel hg).tab km
  rw [h16] at ht
  have HG := Lib.hid hg
  clear hp hg h16
  go_enter Try.func24, Try.ntmps24
  go_wp2
  go_ret
  exact DDone.same HP.out HG.out
set_option maxHeartbeats 6400000 in
theorem radd_zero (base a b s : Nat) (rd wrt ex sc : Bool) (m : List Nat) (t : List Reg) (A : Option Addr) (c : Nat) (w : World) (hp : RAt w base a m t A c) (km : MOk m) (kt : TOk t) (h16 : t.length ≠ 16) (hs : s = 0) (hb : U64 b) (hsz : U64 s) :
    Calls Try.prog 24 #[.pointer (some ⟨a, 0, none⟩), .agg #[.int .u64 (b : Nat), .int .u64 (s : Nat), .bool rd, .bool wrt, .bool ex, .bool sc]] w (DDone base a (.int .i64 161) m t w) := by
  have HP := Lib.hid hp
  have hg := Gr.alloc w (.cells #[.int .u64 (b : Nat), .int .u64 (s : Nat), .bool rd, .bool wrt, .bool ex, .bool sc] 34)
  have ht := (hp.bel hg).tab km
  have hl := kt.len
  generalize t.length = n at ht h16 hl
  have h16I : ¬ ((n : Int) = 16) := by omega
  have hsI : ((s : Int) == 0) = true := by subst hs; rfl
  have hwc := fun w => rwithin_any b s w hb hsz
  obtain ⟨r, hr⟩ : ∃ r, wiB b s = r := ⟨_, rfl⟩
  rw [hr] at hwc
  clear hr
  have HW := Lib.hid hwc
  have HG := Lib.hid hg
  clear hp hg h16 hs hwc hb hsz
  go_enter Try.func24, Try.ntmps24
  go_wp2_with (go_at_call 41; refine (HW.out _).mono ?_; rintro e w9 ⟨rfl, rfl⟩)
  go_ret
  exact DDone.same HP.out HG.out
set_option maxHeartbeats 6400000 in
theorem radd_out (base a b s : Nat) (rd wrt ex sc : Bool) (m : List Nat) (t : List Reg) (A : Option Addr) (c : Nat) (w : World) (hp : RAt w base a m t A c) (km : MOk m) (kt : TOk t) (h16 : t.length ≠ 16) (hs : s ≠ 0) (hb : U64 b) (hsz : U64 s) (hw : wiB b s = false) :
    Calls Try.prog 24 #[.pointer (some ⟨a, 0, none⟩), .agg #[.int .u64 (b : Nat), .int .u64 (s : Nat), .bool rd, .bool wrt, .bool ex, .bool sc]] w (DDone base a (.int .i64 161) m t w) := by
  have HP := Lib.hid hp
  have hg := Gr.alloc w (.cells #[.int .u64 (b : Nat), .int .u64 (s : Nat), .bool rd, .bool wrt, .bool ex, .bool sc] 34)
  have ht := (hp.bel hg).tab km
  have hl := kt.len
  generalize t.length = n at ht h16 hl
  have h16I : ¬ ((n : Int) = 16) := by omega
  have hsI : ((s : Int) == 0) = false := by simp; omega
  have hwc := fun w => rwithin_any b s w hb hsz
  obtain ⟨r, hr⟩ : ∃ r, wiB b s = r := ⟨_, rfl⟩
  rw [hr] at hwc
  rw [hw] at hr; subst hr
  have HW := Lib.hid hwc
  have HG := Lib.hid hg
  clear hp hg h16 hs hwc hb hsz hw
  go_enter Try.func24, Try.ntmps24
  go_wp2_with (go_at_call 41; refine (HW.out _).mono ?_; rintro e w9 ⟨rfl, rfl⟩)
  go_ret
  exact DDone.same HP.out HG.out
set_option maxHeartbeats 6400000 in
theorem radd_rights (base a b s : Nat) (rd sc : Bool) (m : List Nat) (t : List Reg) (A : Option Addr) (c : Nat) (w : World) (hp : RAt w base a m t A c) (km : MOk m) (kt : TOk t) (h16 : t.length ≠ 16) (hs : s ≠ 0) (hb : U64 b) (hsz : U64 s) (hw : wiB b s = true) :
    Calls Try.prog 24 #[.pointer (some ⟨a, 0, none⟩), .agg #[.int .u64 (b : Nat), .int .u64 (s : Nat), .bool rd, .bool true, .bool true, .bool sc]] w (DDone base a (.int .i64 163) m t w) := by
  have HP := Lib.hid hp
  have hg := Gr.alloc w (.cells #[.int .u64 (b : Nat), .int .u64 (s : Nat), .bool rd, .bool true, .bool true, .bool sc] 34)
  have ht := (hp.bel hg).tab km
  have hl := kt.len
  generalize t.length = n at ht h16 hl
  have h16I : ¬ ((n : Int) = 16) := by omega
  have hsI : ((s : Int) == 0) = false := by simp; omega
  have hwc := fun w => rwithin_any b s w hb hsz
  obtain ⟨r, hr⟩ : ∃ r, wiB b s = r := ⟨_, rfl⟩
  rw [hr] at hwc
  rw [hw] at hr; subst hr
  have HW := Lib.hid hwc
  have HG := Lib.hid hg
  clear hp hg h16 hs hwc hb hsz hw
  go_enter Try.func24, Try.ntmps24
  go_wp2_with (go_at_call 41; refine (HW.out _).mono ?_; rintro e w9 ⟨rfl, rfl⟩)
  go_ret
  exact DDone.same HP.out HG.out
set_option maxHeartbeats 12800000 in
theorem radd_main_fe (base a b s n : Nat) (rd ex sc : Bool) (m : List Nat) (t : List Reg) (A : Option Addr) (c : Nat) (w : World) (hp : RAt w base a m t A c) (km : MOk m) (kt : TOk t) (hba : base ≤ a) (hbw : base ≤ w.heap.size) (hn : t.length = n) (h15 : n ≤ 15) (hs : s ≠ 0) (hb : U64 b) (hsz : U64 s) (hw : wiB b s = true) :
    Calls Try.prog 24 #[.pointer (some ⟨a, 0, none⟩), .agg #[.int .u64 (b : Nat), .int .u64 (s : Nat), .bool rd, .bool false, .bool ex, .bool sc]] w (DDone base a (.int .i64 (if hits t ⟨b, s, rd, false, ex, sc⟩ = true then 162 else 0)) m (if hits t ⟨b, s, rd, false, ex, sc⟩ = true then t else t.take (bh t b) ++ (⟨b, s, rd, false, ex, sc⟩ :: t.drop (bh t b))) w) := by
  have HP := Lib.hid hp
  have hg := Gr.alloc w (.cells #[.int .u64 (b : Nat), .int .u64 (s : Nat), .bool rd, .bool false, .bool ex, .bool sc] 34)
  have HBX := Lib.hid (Blk.new w 34 (regD ⟨b, s, rd, false, ex, sc⟩))
  have h16I : ¬ ((n : Int) = 16) := by omega
  have hsI : ((s : Int) == 0) = false := by simp; omega
  have hwc := fun w => rwithin_any b s w hb hsz
  rw [hw] at hwc
  have HFX := Lib.hid (show RFit ⟨b, s, rd, false, ex, sc⟩ from ⟨hb, hsz⟩)
  have HSP := Lib.hid (show 0 < s from by omega)
  have HW := Lib.hid hwc
  have HKM := Lib.hid km
  have HKT := Lib.hid kt
  have HN := Lib.hid hn
  have HBA := Lib.hid hba
  have HBW := Lib.hid hbw
  have HBU := Lib.hid hb
  have HLE := Lib.hid (bh_le t b)
  obtain ⟨q, hq⟩ : ∃ q, bh t b = q := ⟨_, rfl⟩
  have HQ := Lib.hid hq
  rw [hq] at HLE ⊢
  obtain ⟨E, hE⟩ : ∃ E : Int, (if hits t ⟨b, s, rd, false, ex, sc⟩ = true then 162 else 0) = E := ⟨_, rfl⟩
  obtain ⟨T2, hT2⟩ : ∃ T2, (if hits t ⟨b, s, rd, false, ex, sc⟩ = true then t else t.take q ++ (⟨b, s, rd, false, ex, sc⟩ :: t.drop q)) = T2 := ⟨_, rfl⟩
  rw [hE, hT2]
  have HYES := Lib.hid (show hits t ⟨b, s, rd, false, ex, sc⟩ = true → E = 162 ∧ T2 = t from fun h => ⟨by rw [← hE, if_pos h], by rw [← hT2, if_pos h]⟩)
  have HNOT := Lib.hid (show hits t ⟨b, s, rd, false, ex, sc⟩ = false → E = 0 ∧ T2 = t.take q ++ (⟨b, s, rd, false, ex, sc⟩ :: t.drop q) from fun h => ⟨by rw [← hE, if_neg (by rw [h]; simp)], by rw [← hT2, if_neg (by rw [h]; simp)]⟩)
  clear hE hT2
  obtain ⟨w0, hw0⟩ : ∃ w0, w.alloc (.cells (regD ⟨b, s, rd, false, ex, sc⟩).toArray 34) = w0 := ⟨_, rfl⟩
  have HW0 := Lib.hid hw0
  have hw0' : w.alloc (.cells #[.int .u64 (b : Nat), .int .u64 (s : Nat), .bool rd, .bool false, .bool ex, .bool sc] 34) = w0 := hw0
  have HW0L := Lib.hid hw0'
  rw [hw0'] at hg
  rw [hw0] at HBX
  have HG0 := Lib.hid hg
  have HP0 := Lib.hid (hp.bel hg)
  have ht0 := HP0.out.tab km
  rw [hn] at ht0
  have HT0 := Lib.hid ht0
  have htL : (w.alloc (.cells #[.int .u64 (b : Nat), .int .u64 (s : Nat), .bool rd, .bool false, .bool ex, .bool sc] 34)).cell? ⟨a, 65536, none⟩ = some (.slice A n c) := by rw [hw0']; exact ht0
  clear hp hg hs hwc hw hb hsz km kt hn hba hbw hq hw0 hw0' ht0
  go_enter Try.func24, Try.ntmps24
  go_wp2_with (go_at_call 41; refine (HW.out _).mono ?_; rintro e w9 ⟨rfl, rfl⟩)
  clear htL
  go_loopw [6, 7] (fun v6 v7 wr => ∃ k : Nat, v7 = .int .i64 (k : Nat) ∧ v6 = .int .i64 ((min k q : Nat) : Int) ∧ k ≤ n ∧ (∀ (j : Nat) (y : Reg), j < k → t[j]? = some y → meetB y ⟨b, s, rd, false, ex, sc⟩ = false) ∧ Gr w0 wr) (fun _ v7 _ => n - (intOf v7).toNat)
  case atStart => exact ⟨0, rfl, by simp, Nat.zero_le _, fun j x h => by omega, by rw [← HW0L.out]; exact Gr.refl _⟩
  case round =>
    obtain ⟨k, rfl, rfl, hk, hno, hgr⟩ := hrel
    have HNO := Lib.hid hno
    have HGR := Lib.hid hgr
    have ht := gcell HT0.out hgr
    have HT := Lib.hid ht
    have HBR := Lib.hid (HBX.out.gr hgr)
    obtain ⟨mq, hmq⟩ : ∃ mq, min k q = mq := ⟨_, rfl⟩
    have HMQ := Lib.hid hmq
    rw [hmq]
    clear hno hgr hmq
    by_cases hkn : k < n
    · have hkI : (k : Int) < (n : Int) := by omega
      obtain ⟨y, hy⟩ := ent (t := t) (j := k) (by rw [HN.out]; exact hkn)
      obtain ⟨g, hA, _, hr⟩ := (HP0.out.bel HGR.out).reg k y hy
      subst hA
      have HY := Lib.hid hy
      have HFY := Lib.hid (HKT.out.ok k y hy).fit
      have HPY := Lib.hid (HKT.out.ok k y hy).pos
      have HR := Lib.hid hr
      obtain ⟨yb, hyb⟩ : ∃ yb, y.b = yb := ⟨_, rfl⟩
      have HYB := Lib.hid hyb
      have HY0 := Lib.hid (show wr.cell? ⟨g, k * 6, none⟩ = some (.int .u64 (yb : Nat)) from by have := hr 0 _ rfl; rw [hyb] at this; exact this)
      have HX0 := Lib.hid (show wr.cell? ⟨w.heap.size, 0, none⟩ = some (.int .u64 (b : Nat)) from HBR.out.cell 0)
      have HC1 := Lib.hid (fun w => has_any y b w HFY.out HBU.out)
      have HC2 := Lib.hid (fun w => has_any ⟨b, s, rd, false, ex, sc⟩ yb w HFX.out (by rw [← hyb]; exact HFY.out.1))
      have HM := Lib.hid (show (hasB y b || hasB ⟨b, s, rd, false, ex, sc⟩ yb) = meetB y ⟨b, s, rd, false, ex, sc⟩ from by have := meet_has y ⟨b, s, rd, false, ex, sc⟩ HPY.out HSP.out; rwa [hyb] at this)
      obtain ⟨B1, hB1⟩ : ∃ B1, hasB y b = B1 := ⟨_, rfl⟩
      obtain ⟨B2, hB2⟩ : ∃ B2, hasB ⟨b, s, rd, false, ex, sc⟩ yb = B2 := ⟨_, rfl⟩
      rw [hB1] at HC1 HM
      rw [hB2] at HC2 HM
      clear hy hr hyb hB1 hB2
      go_upto_region 12 with (fail)
      refine wp_region_L (fun w_ => Gr wr w_) [] [] (by kernel_rfl) (Gr.drew _) ?_
      refine wpAnyL_take (oi := _) (v := _) (fun _ _ hS_ hb_ => Gr.trans hS_ hb_) (i := 0) rfl (by kernel_rfl) (fun _ _ _ h => h) (pureG (by rfl) (by intro w; go_simp; first | done | with_reducible rfl)) ?_
      try simp only [Act.put, List.getElem_toArray, List.getElem_cons_succ, List.getElem_cons_zero, List.setIfInBounds_toArray, List.set_cons_zero, List.set_cons_succ]
      refine wpAnyL_take (oi := _) (v := _) (fun _ _ hS_ hb_ => Gr.trans hS_ hb_) (i := 1) rfl (by kernel_rfl) (fun _ _ _ h => h) (pureG (by rfl) (by intro w; go_simp; first | done | with_reducible rfl)) ?_
      try simp only [Act.put, List.getElem_toArray, List.getElem_cons_succ, List.getElem_cons_zero, List.setIfInBounds_toArray, List.set_cons_zero, List.set_cons_succ]
      refine wpAnyL_take (oi := _) (v := _) (fun _ _ hS_ hb_ => Gr.trans hS_ hb_) (i := 2) rfl (by kernel_rfl) (fun _ _ _ h => h) (pureG (by rfl) (by intro w; go_simp; first | done | with_reducible rfl)) ?_
      try simp only [Act.put, List.getElem_toArray, List.getElem_cons_succ, List.getElem_cons_zero, List.setIfInBounds_toArray, List.set_cons_zero, List.set_cons_succ]
      refine wpAnyL_take (oi := _) (v := _) (fun _ _ hS_ hb_ => Gr.trans hS_ hb_) (i := 3) rfl (by kernel_rfl) (fun _ _ _ h => h) (worldG (by rfl) (by intro w_ hS_; have q0_ := gcell HT.out hS_; go_simp; first | done | with_reducible rfl)) ?_
      try simp only [Act.put, List.getElem_toArray, List.getElem_cons_succ, List.getElem_cons_zero, List.setIfInBounds_toArray, List.set_cons_zero, List.set_cons_succ]
      refine wpAnyL_take (oi := _) (v := _) (fun _ _ hS_ hb_ => Gr.trans hS_ hb_) (i := 4) rfl (by kernel_rfl) (fun _ _ _ h => h) (pureG (by rfl) (by intro w; go_simp; first | done | with_reducible rfl)) ?_
      try simp only [Act.put, List.getElem_toArray, List.getElem_cons_succ, List.getElem_cons_zero, List.setIfInBounds_toArray, List.set_cons_zero, List.set_cons_succ]
      refine wpAnyL_take (oi := _) (v := _) (fun _ _ hS_ hb_ => Gr.trans hS_ hb_) (i := 5) rfl (by kernel_rfl) (fun _ _ _ h => h) (pureG (by rfl) (by intro w; go_simp; first | done | with_reducible rfl)) ?_
      try simp only [Act.put, List.getElem_toArray, List.getElem_cons_succ, List.getElem_cons_zero, List.setIfInBounds_toArray, List.set_cons_zero, List.set_cons_succ]
      refine wpAnyL_take (oi := _) (v := _) (fun _ _ hS_ hb_ => Gr.trans hS_ hb_) (i := 6) rfl (by kernel_rfl) (fun _ _ _ h => h) (loadG (by rfl) 34 (.tmp 49) rfl (g) (k * 6) rfl (regD y) _ (fun w_ hS_ => grange (HR.out) hS_) Try.underlying34 rfl (by rw [info34]; rfl)) ?_
      try simp only [Act.put, List.getElem_toArray, List.getElem_cons_succ, List.getElem_cons_zero, List.setIfInBounds_toArray, List.set_cons_zero, List.set_cons_succ]
      refine wpAnyL_take (oi := _) (v := _) (fun _ _ hS_ hb_ => Gr.trans hS_ hb_) (i := 7) rfl (by kernel_rfl) (fun _ _ _ h => h) (pureG (by rfl) (by intro w; go_simp; first | done | with_reducible rfl)) ?_
      try simp only [Act.put, List.getElem_toArray, List.getElem_cons_succ, List.getElem_cons_zero, List.setIfInBounds_toArray, List.set_cons_zero, List.set_cons_succ]
      refine wpAnyL_take (oi := _) (v := _) (fun _ _ hS_ hb_ => Gr.trans hS_ hb_) (i := 8) rfl (by kernel_rfl) (fun _ _ _ h => h) (worldG (by rfl) (by intro w_ hS_; have q0_ := gcell HX0.out hS_; go_simp; first | done | with_reducible rfl)) ?_
      try simp only [Act.put, List.getElem_toArray, List.getElem_cons_succ, List.getElem_cons_zero, List.setIfInBounds_toArray, List.set_cons_zero, List.set_cons_succ]
      refine wpAnyL_take (oi := _) (v := _) (fun _ _ hS_ hb_ => Gr.trans hS_ hb_) (i := 9) rfl (by kernel_rfl) (fun _ _ _ h => h) (callG (by rfl) rfl Try.func42 (by kernel_rfl) (by kernel_rfl) #[.agg (regD y).toArray, .int .u64 (b : Nat)] (by simp [Act.eval]) (fun w_ hS_ => HC1.out w_)) ?_
      try simp only [Act.put, List.getElem_toArray, List.getElem_cons_succ, List.getElem_cons_zero, List.setIfInBounds_toArray, List.set_cons_zero, List.set_cons_succ]
      refine wpAnyL_take (oi := _) (v := _) (fun _ _ hS_ hb_ => Gr.trans hS_ hb_) (i := 10) rfl (by kernel_rfl) (fun _ _ _ h => h) (pureG (by rfl) (by intro w; go_simp; first | done | with_reducible rfl)) ?_
      try simp only [Act.put, List.getElem_toArray, List.getElem_cons_succ, List.getElem_cons_zero, List.setIfInBounds_toArray, List.set_cons_zero, List.set_cons_succ]
      refine wpAnyL_done (by kernel_rfl) (fun WA hWA => ?_) _
      have HGA := Lib.hid (show Gr wr WA from (Gr.drew wr).trans hWA)
      clear hWA ht
      have HTA := Lib.hid (gcell HT.out HGA.out)
      have HYA := Lib.hid (gcell HY0.out HGA.out)
      have HBA2 := Lib.hid (HBR.out.gr HGA.out)
      go_upto_region 13 with (fail)
      refine wp_region_L (fun w_ => Gr WA w_) [] [] (by kernel_rfl) (Gr.drew _) ?_
      refine wpAnyL_take (oi := _) (v := _) (fun _ _ hS_ hb_ => Gr.trans hS_ hb_) (i := 0) rfl (by kernel_rfl) (fun _ _ _ h => h) (loadG (by rfl) 34 (.tmp 3) rfl (w.heap.size) (0) rfl (regD ⟨b, s, rd, false, ex, sc⟩) _ (fun w_ hS_ => grange (blk_all HBA2.out) hS_) Try.underlying34 rfl (by rw [info34]; rfl)) ?_
      try simp only [Act.put, List.getElem_toArray, List.getElem_cons_succ, List.getElem_cons_zero, List.setIfInBounds_toArray, List.set_cons_zero, List.set_cons_succ]
      refine wpAnyL_take (oi := _) (v := _) (fun _ _ hS_ hb_ => Gr.trans hS_ hb_) (i := 1) rfl (by kernel_rfl) (fun _ _ _ h => h) (pureG (by rfl) (by intro w; go_simp; first | done | with_reducible rfl)) ?_
      try simp only [Act.put, List.getElem_toArray, List.getElem_cons_succ, List.getElem_cons_zero, List.setIfInBounds_toArray, List.set_cons_zero, List.set_cons_succ]
      refine wpAnyL_take (oi := _) (v := _) (fun _ _ hS_ hb_ => Gr.trans hS_ hb_) (i := 2) rfl (by kernel_rfl) (fun _ _ _ h => h) (pureG (by rfl) (by intro w; go_simp; first | done | with_reducible rfl)) ?_
      try simp only [Act.put, List.getElem_toArray, List.getElem_cons_succ, List.getElem_cons_zero, List.setIfInBounds_toArray, List.set_cons_zero, List.set_cons_succ]
      refine wpAnyL_take (oi := _) (v := _) (fun _ _ hS_ hb_ => Gr.trans hS_ hb_) (i := 3) rfl (by kernel_rfl) (fun _ _ _ h => h) (pureG (by rfl) (by intro w; go_simp; first | done | with_reducible rfl)) ?_
      try simp only [Act.put, List.getElem_toArray, List.getElem_cons_succ, List.getElem_cons_zero, List.setIfInBounds_toArray, List.set_cons_zero, List.set_cons_succ]
      refine wpAnyL_take (oi := _) (v := _) (fun _ _ hS_ hb_ => Gr.trans hS_ hb_) (i := 4) rfl (by kernel_rfl) (fun _ _ _ h => h) (worldG (by rfl) (by intro w_ hS_; have q0_ := gcell HTA.out hS_; go_simp; first | done | with_reducible rfl)) ?_
      try simp only [Act.put, List.getElem_toArray, List.getElem_cons_succ, List.getElem_cons_zero, List.setIfInBounds_toArray, List.set_cons_zero, List.set_cons_succ]
      refine wpAnyL_take (oi := _) (v := _) (fun _ _ hS_ hb_ => Gr.trans hS_ hb_) (i := 5) rfl (by kernel_rfl) (fun _ _ _ h => h) (pureG (by rfl) (by intro w; go_simp; first | done | with_reducible rfl)) ?_
      try simp only [Act.put, List.getElem_toArray, List.getElem_cons_succ, List.getElem_cons_zero, List.setIfInBounds_toArray, List.set_cons_zero, List.set_cons_succ]
      refine wpAnyL_take (oi := _) (v := _) (fun _ _ hS_ hb_ => Gr.trans hS_ hb_) (i := 6) rfl (by kernel_rfl) (fun _ _ _ h => h) (pureG (by rfl) (by intro w; go_simp; first | done | with_reducible rfl)) ?_
      try simp only [Act.put, List.getElem_toArray, List.getElem_cons_succ, List.getElem_cons_zero, List.setIfInBounds_toArray, List.set_cons_zero, List.set_cons_succ]
      refine wpAnyL_take (oi := _) (v := _) (fun _ _ hS_ hb_ => Gr.trans hS_ hb_) (i := 7) rfl (by kernel_rfl) (fun _ _ _ h => h) (pureG (by rfl) (by intro w; go_simp; first | done | with_reducible rfl)) ?_
      try simp only [Act.put, List.getElem_toArray, List.getElem_cons_succ, List.getElem_cons_zero, List.setIfInBounds_toArray, List.set_cons_zero, List.set_cons_succ]
      refine wpAnyL_take (oi := _) (v := _) (fun _ _ hS_ hb_ => Gr.trans hS_ hb_) (i := 8) rfl (by kernel_rfl) (fun _ _ _ h => h) (worldG (by rfl) (by intro w_ hS_; have q0_ := gcell HYA.out hS_; go_simp; first | done | with_reducible rfl)) ?_
      try simp only [Act.put, List.getElem_toArray, List.getElem_cons_succ, List.getElem_cons_zero, List.setIfInBounds_toArray, List.set_cons_zero, List.set_cons_succ]
      refine wpAnyL_take (oi := _) (v := _) (fun _ _ hS_ hb_ => Gr.trans hS_ hb_) (i := 9) rfl (by kernel_rfl) (fun _ _ _ h => h) (callG (by rfl) rfl Try.func42 (by kernel_rfl) (by kernel_rfl) #[.agg (regD ⟨b, s, rd, false, ex, sc⟩).toArray, .int .u64 (yb : Nat)] (by simp [Act.eval]) (fun w_ hS_ => HC2.out w_)) ?_
      try simp only [Act.put, List.getElem_toArray, List.getElem_cons_succ, List.getElem_cons_zero, List.setIfInBounds_toArray, List.set_cons_zero, List.set_cons_succ]
      refine wpAnyL_take (oi := _) (v := _) (fun _ _ hS_ hb_ => Gr.trans hS_ hb_) (i := 10) rfl (by kernel_rfl) (fun _ _ _ h => h) (pureG (by rfl) (by intro w; go_simp; first | done | with_reducible rfl)) ?_
      try simp only [Act.put, List.getElem_toArray, List.getElem_cons_succ, List.getElem_cons_zero, List.setIfInBounds_toArray, List.set_cons_zero, List.set_cons_succ]
      refine wpAnyL_done (by kernel_rfl) (fun WB hWB => ?_) _
      have HGB := Lib.hid (show Gr WA WB from (Gr.drew WA).trans hWB)
      clear hWB
      have HTB := Lib.hid (gcell HTA.out HGB.out)
      have HYB2 := Lib.hid (gcell HYA.out HGB.out)
      have HBB := Lib.hid (HBA2.out.gr HGB.out)
      have HXB := Lib.hid (show WB.cell? ⟨w.heap.size, 0, none⟩ = some (.int .u64 (b : Nat)) from HBB.out.cell 0)
      have HGW := Lib.hid ((HGR.out.trans HGA.out).trans HGB.out)
      have hcase : B1 = true ∨ (B1 = false ∧ B2 = true) ∨ (B1 = false ∧ B2 = false) := by cases B1 <;> cases B2 <;> simp
      have HHIT := Lib.hid (show (B1 = true ∨ B2 = true) → E = 162 ∧ T2 = t from fun h => by
        refine HYES.out ?_
        exact hits_here HKT.out ⟨b, s, rd, false, ex, sc⟩ y k HY.out (by rw [← HM.out]; rcases h with h | h <;> rw [h] <;> simp))
      rcases hcase with rfl | ⟨rfl, rfl⟩ | ⟨rfl, rfl⟩
      · have HET := Lib.hid (HHIT.out (.inl rfl))
        go_wp2_with fail
        go_ret
        rw [HET.out.1, HET.out.2]
        exact DDone.same HP.out (HG0.out.trans HGW.out)
      · have HET := Lib.hid (HHIT.out (.inr rfl))
        go_wp2_with fail
        go_ret
        rw [HET.out.1, HET.out.2]
        exact DDone.same HP.out (HG0.out.trans HGW.out)
      · have HNM := Lib.hid (show ∀ (j : Nat) (z : Reg), j < k + 1 → t[j]? = some z → meetB z ⟨b, s, rd, false, ex, sc⟩ = false from fun j z hj hz => by
          rcases Nat.lt_succ_iff_lt_or_eq.1 hj with h | h
          · exact HNO.out j z h hz
          · subst h; rw [HY.out] at hz; injection hz with hz; subst hz; exact HM.out.symm)
        have hnm := of_decide_eq_false (HNM.out k y (by omega) HY.out)
        go_upto_region 16 with (fail)
        refine wp_region_L (fun w_ => Gr WB w_) [] [] (by kernel_rfl) (Gr.drew _) ?_
        refine wpAnyL_take (oi := _) (v := _) (fun _ _ hS_ hb_ => Gr.trans hS_ hb_) (i := 0) rfl (by kernel_rfl) (fun _ _ _ h => h) (pureG (by rfl) (by intro w; go_simp; first | done | with_reducible rfl)) ?_
        try simp only [Act.put, List.getElem_toArray, List.getElem_cons_succ, List.getElem_cons_zero, List.setIfInBounds_toArray, List.set_cons_zero, List.set_cons_succ]
        refine wpAnyL_take (oi := _) (v := _) (fun _ _ hS_ hb_ => Gr.trans hS_ hb_) (i := 1) rfl (by kernel_rfl) (fun _ _ _ h => h) (pureG (by rfl) (by intro w; go_simp; first | done | with_reducible rfl)) ?_
        try simp only [Act.put, List.getElem_toArray, List.getElem_cons_succ, List.getElem_cons_zero, List.setIfInBounds_toArray, List.set_cons_zero, List.set_cons_succ]
        refine wpAnyL_take (oi := _) (v := _) (fun _ _ hS_ hb_ => Gr.trans hS_ hb_) (i := 2) rfl (by kernel_rfl) (fun _ _ _ h => h) (pureG (by rfl) (by intro w; go_simp; first | done | with_reducible rfl)) ?_
        try simp only [Act.put, List.getElem_toArray, List.getElem_cons_succ, List.getElem_cons_zero, List.setIfInBounds_toArray, List.set_cons_zero, List.set_cons_succ]
        refine wpAnyL_take (oi := _) (v := _) (fun _ _ hS_ hb_ => Gr.trans hS_ hb_) (i := 3) rfl (by kernel_rfl) (fun _ _ _ h => h) (worldG (by rfl) (by intro w_ hS_; have q0_ := gcell HTB.out hS_; go_simp; first | done | with_reducible rfl)) ?_
        try simp only [Act.put, List.getElem_toArray, List.getElem_cons_succ, List.getElem_cons_zero, List.setIfInBounds_toArray, List.set_cons_zero, List.set_cons_succ]
        refine wpAnyL_take (oi := _) (v := _) (fun _ _ hS_ hb_ => Gr.trans hS_ hb_) (i := 4) rfl (by kernel_rfl) (fun _ _ _ h => h) (pureG (by rfl) (by intro w; go_simp; first | done | with_reducible rfl)) ?_
        try simp only [Act.put, List.getElem_toArray, List.getElem_cons_succ, List.getElem_cons_zero, List.setIfInBounds_toArray, List.set_cons_zero, List.set_cons_succ]
        refine wpAnyL_take (oi := _) (v := _) (fun _ _ hS_ hb_ => Gr.trans hS_ hb_) (i := 5) rfl (by kernel_rfl) (fun _ _ _ h => h) (pureG (by rfl) (by intro w; go_simp; first | done | with_reducible rfl)) ?_
        try simp only [Act.put, List.getElem_toArray, List.getElem_cons_succ, List.getElem_cons_zero, List.setIfInBounds_toArray, List.set_cons_zero, List.set_cons_succ]
        refine wpAnyL_take (oi := _) (v := _) (fun _ _ hS_ hb_ => Gr.trans hS_ hb_) (i := 6) rfl (by kernel_rfl) (fun _ _ _ h => h) (pureG (by rfl) (by intro w; go_simp; first | done | with_reducible rfl)) ?_
        try simp only [Act.put, List.getElem_toArray, List.getElem_cons_succ, List.getElem_cons_zero, List.setIfInBounds_toArray, List.set_cons_zero, List.set_cons_succ]
        refine wpAnyL_take (oi := _) (v := _) (fun _ _ hS_ hb_ => Gr.trans hS_ hb_) (i := 7) rfl (by kernel_rfl) (fun _ _ _ h => h) (worldG (by rfl) (by intro w_ hS_; have q0_ := gcell HYB2.out hS_; go_simp; first | done | with_reducible rfl)) ?_
        try simp only [Act.put, List.getElem_toArray, List.getElem_cons_succ, List.getElem_cons_zero, List.setIfInBounds_toArray, List.set_cons_zero, List.set_cons_succ]
        refine wpAnyL_take (oi := _) (v := _) (fun _ _ hS_ hb_ => Gr.trans hS_ hb_) (i := 8) rfl (by kernel_rfl) (fun _ _ _ h => h) (pureG (by rfl) (by intro w; go_simp; first | done | with_reducible rfl)) ?_
        try simp only [Act.put, List.getElem_toArray, List.getElem_cons_succ, List.getElem_cons_zero, List.setIfInBounds_toArray, List.set_cons_zero, List.set_cons_succ]
        refine wpAnyL_take (oi := _) (v := _) (fun _ _ hS_ hb_ => Gr.trans hS_ hb_) (i := 9) rfl (by kernel_rfl) (fun _ _ _ h => h) (worldG (by rfl) (by intro w_ hS_; have q0_ := gcell HXB.out hS_; go_simp; first | done | with_reducible rfl)) ?_
        try simp only [Act.put, List.getElem_toArray, List.getElem_cons_succ, List.getElem_cons_zero, List.setIfInBounds_toArray, List.set_cons_zero, List.set_cons_succ]
        refine wpAnyL_take (oi := _) (v := _) (fun _ _ hS_ hb_ => Gr.trans hS_ hb_) (i := 10) rfl (by kernel_rfl) (fun _ _ _ h => h) (pureG (by rfl) (by intro w; go_simp; first | done | with_reducible rfl)) ?_
        try simp only [Act.put, List.getElem_toArray, List.getElem_cons_succ, List.getElem_cons_zero, List.setIfInBounds_toArray, List.set_cons_zero, List.set_cons_succ]
        refine wpAnyL_done (by kernel_rfl) (fun WC hWC => ?_) _
        have HGC := Lib.hid (HGW.out.trans ((Gr.drew WB).trans hWC))
        clear hWC
        by_cases hlt : yb < b
        · have HMIN := Lib.hid (show min (k + 1) q = k + 1 from by
            have h1 : k < q := by
              rcases Nat.lt_or_ge k q with h | h
              · exact h
              · have := bh_ge HKT.out b k y HY.out (by rw [HQ.out]; exact h)
                have := HYB.out
                have := HSP.out
                simp only at hnm
                omega
            omega)
          have hd : decide (yb < b) = true := decide_eq_true hlt
          clear hnm
          go_wp2_with fail
          go_roundw
          case rel => exact ⟨k + 1, by go_num, by rw [HMIN.out]; go_num, hkn, HNM.out, HGC.out⟩
          case measure => simp [intOf]; omega
        · have HMIN := Lib.hid (show min (k + 1) q = mq from by
            have h1 : q ≤ k := by
              rcases Nat.lt_or_ge k q with h | h
              · have := bh_lt t b k y HY.out (by rw [HQ.out]; exact h)
                have := HYB.out
                have := HPY.out
                omega
              · exact h
            rw [← HMQ.out]
            omega)
          have hd : decide (yb < b) = false := decide_eq_false hlt
          clear hnm
          go_wp2_with fail
          go_roundw
          case rel => exact ⟨k + 1, by go_num, by rw [HMIN.out], hkn, HNM.out, HGC.out⟩
          case measure => simp [intOf]; omega
    · obtain rfl : k = n := by omega
      have HET := Lib.hid (HNOT.out (hits_none ⟨b, s, rd, false, ex, sc⟩ (fun j y hy => HNO.out j y (by have := len_of hy; rw [HN.out] at this; exact this) hy)))
      have eq : mq = q := by have := HMQ.out; have := HLE.out; rw [HN.out] at this; omega
      have HEQ := Lib.hid eq
      have hqn : mq ≤ k := by have := HMQ.out; omega
      have HPR := Lib.hid (HP0.out.bel HGR.out)
      have hqI : (mq : Int) ≤ (k : Int) := by omega
      have hin1 := HP0.out.head mq (by rw [HN.out]; exact hqn)
      have HWW := Lib.hid HG0.out.size
      have HIN1 := Lib.hid hin1
      obtain ⟨e0, e1, e2, e3, e4, e5⟩ := reg6 (blk_all HBR.out)
      have hb0 : w0.heap.size ≤ wr.heap.size := HGR.out.size
      have hbw0 : base ≤ w0.heap.size := Nat.le_trans HBW.out HG0.out.size
      have HBW0 := Lib.hid hbw0
      have HB0 := Lib.hid hb0
      have hq16 : mq ≤ 16 := by omega
      clear hb0 hbw0 hin1 eq
      cases A with
      | none =>
        obtain ⟨ht0, hc0⟩ := HPR.out.tail0
        subst hc0
        have hk0 : k = 0 := by rw [← HN.out, ht0]; rfl
        clear ht0
        subst hk0
        obtain rfl : mq = 0 := by omega
        have HI2 := Lib.hid (show RIn w0 none 0 0 (t.drop 0) from ⟨by rw [List.length_drop, HN.out], (fun _ => ⟨rfl, rfl⟩), .inl rfl⟩)
        go_wp2_with (first
          | (at_builtin; refine wpList_append_regs _ rfl (.tmp 81) (.tmp 87) rfl w0.heap.size 0 0 0 0 none none [] (t.take 0) rfl rfl (by omega) (by omega) (own_nil _ _ _ _) (HIN1.out.gr HGR.out) HB0.out ?_; intro V1 c1 w1 hown1 hg1; have HG1 := Lib.hid (gr_own HGR.out (own_nil wr w0.heap.size 34 6) hg1); have ht1 := gcell HT0.out HG1.out; obtain ⟨f0, f1, f2, f3, f4, f5⟩ := reg6 (blk_all (HBX.out.gr HG1.out)); have HO1 := Lib.hid (show w1.ownsRow w0.heap.size 34 6 (.slice V1 0 c1) 0 (cellsD (t.take 0)) from by simpa using hown1); clear hown1 hg1)
          | (at_builtin; refine wpList_append_regs _ rfl (.tmp 89) (.tmp 91) rfl w0.heap.size 0 1 1 c1 V1 (some ⟨w1.heap.size, 0, none⟩) (t.take 0) [⟨b, s, rd, false, ex, sc⟩] rfl rfl (by omega) (by omega) (own_below HO1.out (Gr.alloc w1 _)) (rin_one w1 ⟨b, s, rd, false, ex, sc⟩) (Nat.le_trans HG1.out.size (Gr.alloc w1 _).size) ?_; intro V2 c2 w2 hown2 hg2; have HG2 := Lib.hid (gr_own (HG1.out.trans (Gr.alloc w1 _)) (own_below HO1.out (Gr.alloc w1 _)) hg2); have ht2 := gcell HT0.out HG2.out; have HO2 := Lib.hid hown2; clear hown2 hg2)
          | (at_builtin; refine wpList_append_regs _ rfl (.tmp 94) (.tmp 100) rfl w0.heap.size (0 + 1) 0 0 c2 V2 none (t.take 0 ++ [⟨b, s, rd, false, ex, sc⟩]) (t.drop 0) rfl rfl (by omega) (by omega) HO2.out (HI2.out.gr HG2.out) HG2.out.size ?_; intro V3 c3 w3 hown3 hg3; have HG3 := Lib.hid (gr_own HG2.out HO2.out hg3); have ht3 := gcell HT0.out HG3.out; have hf3 := (HP0.out.bel HG3.out).blk.free 65536; have HO3 := Lib.hid (own_mono hown3 HWW.out); clear hown3 hg3))
        go_ret
        rw [HET.out.1, HET.out.2, ← HEQ.out, show t.take 0 ++ (⟨b, s, rd, false, ex, sc⟩ :: t.drop 0) = t.take 0 ++ [⟨b, s, rd, false, ex, sc⟩] ++ t.drop 0 by simp]
        exact DDone.put HP.out HKM.out HBA.out HBW.out (HG0.out.trans HG3.out) (by rw [List.length_append, List.length_append, List.length_take, List.length_drop, HN.out]; simp <;> omega) HO3.out
      | some ad =>
        obtain ⟨g, hg⟩ : ∃ g, ad = ⟨g, 0, none⟩ := by
          rcases HPR.out.row.2 with ⟨he, _⟩ | ⟨g', cap, cur, he, _⟩
          · cases he
          · injection he with e1; injection e1 with e1; exact ⟨g', e1⟩
        subst hg
        obtain ⟨hin2, hnc⟩ := HP0.out.tail2 mq (by rw [HN.out]; exact hqn)
        rw [HN.out] at hin2 hnc
        have HIN2 := Lib.hid hin2
        have hqc : (mq : Int) ≤ (c : Int) := by omega
        clear hin2
        by_cases hci : c = mq
        · have hci2 := hci.symm
          clear hci HIN2
          subst hci2
          have ekm : k = mq := by omega
          subst ekm
          have HI2 := Lib.hid (show RIn w0 (some ⟨g, 0, none⟩) 0 0 (t.drop k) from ⟨by rw [List.length_drop, HN.out]; omega, (fun e => by cases e), .inl rfl⟩)
          clear hnc
          go_wp2_with (first
            | (at_builtin; refine wpList_append_regs _ rfl (.tmp 81) (.tmp 87) rfl w0.heap.size 0 k k 0 none (some ⟨g, 0, none⟩) [] (t.take k) rfl rfl (by omega) (by omega) (own_nil _ _ _ _) (HIN1.out.gr HGR.out) HB0.out ?_; intro V1 c1 w1 hown1 hg1; have HG1 := Lib.hid (gr_own HGR.out (own_nil wr w0.heap.size 34 6) hg1); have ht1 := gcell HT0.out HG1.out; obtain ⟨f0, f1, f2, f3, f4, f5⟩ := reg6 (blk_all (HBX.out.gr HG1.out)); have HO1 := Lib.hid (show w1.ownsRow w0.heap.size 34 6 (.slice V1 k c1) k (cellsD (t.take k)) from by simpa using hown1); clear hown1 hg1)
            | (at_builtin; refine wpList_append_regs _ rfl (.tmp 89) (.tmp 91) rfl w0.heap.size k 1 1 c1 V1 (some ⟨w1.heap.size, 0, none⟩) (t.take k) [⟨b, s, rd, false, ex, sc⟩] rfl rfl (by omega) (by omega) (own_below HO1.out (Gr.alloc w1 _)) (rin_one w1 ⟨b, s, rd, false, ex, sc⟩) (Nat.le_trans HG1.out.size (Gr.alloc w1 _).size) ?_; intro V2 c2 w2 hown2 hg2; have HG2 := Lib.hid (gr_own (HG1.out.trans (Gr.alloc w1 _)) (own_below HO1.out (Gr.alloc w1 _)) hg2); have ht2 := gcell HT0.out HG2.out; have HO2 := Lib.hid hown2; clear hown2 hg2)
            | (at_builtin; refine wpList_append_regs _ rfl (.tmp 94) (.tmp 100) rfl w0.heap.size (k + 1) 0 0 c2 V2 (some ⟨g, 0, none⟩) (t.take k ++ [⟨b, s, rd, false, ex, sc⟩]) (t.drop k) rfl rfl (by omega) (by omega) HO2.out (HI2.out.gr HG2.out) HG2.out.size ?_; intro V3 c3 w3 hown3 hg3; have HG3 := Lib.hid (gr_own HG2.out HO2.out hg3); have ht3 := gcell HT0.out HG3.out; have hf3 := (HP0.out.bel HG3.out).blk.free 65536; have HO3 := Lib.hid (own_mono hown3 HWW.out); clear hown3 hg3))
          go_ret
          rw [HET.out.1, HET.out.2, ← HEQ.out, show t.take k ++ (⟨b, s, rd, false, ex, sc⟩ :: t.drop k) = t.take k ++ [⟨b, s, rd, false, ex, sc⟩] ++ t.drop k by simp]
          exact DDone.put HP.out HKM.out HBA.out HBW.out (HG0.out.trans HG3.out) (by rw [List.length_append, List.length_append, List.length_take, List.length_drop, HN.out]; simp <;> omega) HO3.out
        · have HI2 := Lib.hid (by have := HIN2.out; rwa [if_neg hci] at this : RIn w0 (some ⟨g, mq * 6, none⟩) (k - mq) (c - mq) (t.drop mq))
          go_wp2_with (first
            | (at_builtin; refine wpList_append_regs _ rfl (.tmp 81) (.tmp 87) rfl w0.heap.size 0 mq c 0 none (some ⟨g, 0, none⟩) [] (t.take mq) rfl rfl (by omega) (by omega) (own_nil _ _ _ _) (HIN1.out.gr HGR.out) HB0.out ?_; intro V1 c1 w1 hown1 hg1; have HG1 := Lib.hid (gr_own HGR.out (own_nil wr w0.heap.size 34 6) hg1); have ht1 := gcell HT0.out HG1.out; obtain ⟨f0, f1, f2, f3, f4, f5⟩ := reg6 (blk_all (HBX.out.gr HG1.out)); have HO1 := Lib.hid (show w1.ownsRow w0.heap.size 34 6 (.slice V1 mq c1) mq (cellsD (t.take mq)) from by simpa using hown1); clear hown1 hg1)
            | (at_builtin; refine wpList_append_regs _ rfl (.tmp 89) (.tmp 91) rfl w0.heap.size mq 1 1 c1 V1 (some ⟨w1.heap.size, 0, none⟩) (t.take mq) [⟨b, s, rd, false, ex, sc⟩] rfl rfl (by omega) (by omega) (own_below HO1.out (Gr.alloc w1 _)) (rin_one w1 ⟨b, s, rd, false, ex, sc⟩) (Nat.le_trans HG1.out.size (Gr.alloc w1 _).size) ?_; intro V2 c2 w2 hown2 hg2; have HG2 := Lib.hid (gr_own (HG1.out.trans (Gr.alloc w1 _)) (own_below HO1.out (Gr.alloc w1 _)) hg2); have ht2 := gcell HT0.out HG2.out; have HO2 := Lib.hid hown2; clear hown2 hg2)
            | (at_builtin; refine wpList_append_regs _ rfl (.tmp 94) (.tmp 100) rfl w0.heap.size (mq + 1) (k - mq) (c - mq) c2 V2 (some ⟨g, mq * 6, none⟩) (t.take mq ++ [⟨b, s, rd, false, ex, sc⟩]) (t.drop mq) rfl rfl (by omega) (by omega) HO2.out (HI2.out.gr HG2.out) HG2.out.size ?_; intro V3 c3 w3 hown3 hg3; have HG3 := Lib.hid (gr_own HG2.out HO2.out hg3); have ht3 := gcell HT0.out HG3.out; have hf3 := (HP0.out.bel HG3.out).blk.free 65536; have HO3 := Lib.hid (own_mono hown3 HWW.out); clear hown3 hg3))
          go_ret
          rw [HET.out.1, HET.out.2, ← HEQ.out, show t.take mq ++ (⟨b, s, rd, false, ex, sc⟩ :: t.drop mq) = t.take mq ++ [⟨b, s, rd, false, ex, sc⟩] ++ t.drop mq by simp]
          exact DDone.put HP.out HKM.out HBA.out HBW.out (HG0.out.trans HG3.out) (by rw [List.length_append, List.length_append, List.length_take, List.length_drop, HN.out]; simp <;> omega) HO3.out

set_option maxHeartbeats 12800000 in
theorem radd_main_tf (base a b s n : Nat) (rd sc : Bool) (m : List Nat) (t : List Reg) (A : Option Addr) (c : Nat) (w : World) (hp : RAt w base a m t A c) (km : MOk m) (kt : TOk t) (hba : base ≤ a) (hbw : base ≤ w.heap.size) (hn : t.length = n) (h15 : n ≤ 15) (hs : s ≠ 0) (hb : U64 b) (hsz : U64 s) (hw : wiB b s = true) :
    Calls Try.prog 24 #[.pointer (some ⟨a, 0, none⟩), .agg #[.int .u64 (b : Nat), .int .u64 (s : Nat), .bool rd, .bool true, .bool false, .bool sc]] w (DDone base a (.int .i64 (if hits t ⟨b, s, rd, true, false, sc⟩ = true then 162 else 0)) m (if hits t ⟨b, s, rd, true, false, sc⟩ = true then t else t.take (bh t b) ++ (⟨b, s, rd, true, false, sc⟩ :: t.drop (bh t b))) w) := by
  have HP := Lib.hid hp
  have hg := Gr.alloc w (.cells #[.int .u64 (b : Nat), .int .u64 (s : Nat), .bool rd, .bool true, .bool false, .bool sc] 34)
  have HBX := Lib.hid (Blk.new w 34 (regD ⟨b, s, rd, true, false, sc⟩))
  have h16I : ¬ ((n : Int) = 16) := by omega
  have hsI : ((s : Int) == 0) = false := by simp; omega
  have hwc := fun w => rwithin_any b s w hb hsz
  rw [hw] at hwc
  have HFX := Lib.hid (show RFit ⟨b, s, rd, true, false, sc⟩ from ⟨hb, hsz⟩)
  have HSP := Lib.hid (show 0 < s from by omega)
  have HW := Lib.hid hwc
  have HKM := Lib.hid km
  have HKT := Lib.hid kt
  have HN := Lib.hid hn
  have HBA := Lib.hid hba
  have HBW := Lib.hid hbw
  have HBU := Lib.hid hb
  have HLE := Lib.hid (bh_le t b)
  obtain ⟨q, hq⟩ : ∃ q, bh t b = q := ⟨_, rfl⟩
  have HQ := Lib.hid hq
  rw [hq] at HLE ⊢
  obtain ⟨E, hE⟩ : ∃ E : Int, (if hits t ⟨b, s, rd, true, false, sc⟩ = true then 162 else 0) = E := ⟨_, rfl⟩
  obtain ⟨T2, hT2⟩ : ∃ T2, (if hits t ⟨b, s, rd, true, false, sc⟩ = true then t else t.take q ++ (⟨b, s, rd, true, false, sc⟩ :: t.drop q)) = T2 := ⟨_, rfl⟩
  rw [hE, hT2]
  have HYES := Lib.hid (show hits t ⟨b, s, rd, true, false, sc⟩ = true → E = 162 ∧ T2 = t from fun h => ⟨by rw [← hE, if_pos h], by rw [← hT2, if_pos h]⟩)
  have HNOT := Lib.hid (show hits t ⟨b, s, rd, true, false, sc⟩ = false → E = 0 ∧ T2 = t.take q ++ (⟨b, s, rd, true, false, sc⟩ :: t.drop q) from fun h => ⟨by rw [← hE, if_neg (by rw [h]; simp)], by rw [← hT2, if_neg (by rw [h]; simp)]⟩)
  clear hE hT2
  obtain ⟨w0, hw0⟩ : ∃ w0, w.alloc (.cells (regD ⟨b, s, rd, true, false, sc⟩).toArray 34) = w0 := ⟨_, rfl⟩
  have HW0 := Lib.hid hw0
  have hw0' : w.alloc (.cells #[.int .u64 (b : Nat), .int .u64 (s : Nat), .bool rd, .bool true, .bool false, .bool sc] 34) = w0 := hw0
  have HW0L := Lib.hid hw0'
  rw [hw0'] at hg
  rw [hw0] at HBX
  have HG0 := Lib.hid hg
  have HP0 := Lib.hid (hp.bel hg)
  have ht0 := HP0.out.tab km
  rw [hn] at ht0
  have HT0 := Lib.hid ht0
  have htL : (w.alloc (.cells #[.int .u64 (b : Nat), .int .u64 (s : Nat), .bool rd, .bool true, .bool false, .bool sc] 34)).cell? ⟨a, 65536, none⟩ = some (.slice A n c) := by rw [hw0']; exact ht0
  clear hp hg hs hwc hw hb hsz km kt hn hba hbw hq hw0 hw0' ht0
  go_enter Try.func24, Try.ntmps24
  go_wp2_with (go_at_call 41; refine (HW.out _).mono ?_; rintro e w9 ⟨rfl, rfl⟩)
  clear htL
  go_loopw [6, 7] (fun v6 v7 wr => ∃ k : Nat, v7 = .int .i64 (k : Nat) ∧ v6 = .int .i64 ((min k q : Nat) : Int) ∧ k ≤ n ∧ (∀ (j : Nat) (y : Reg), j < k → t[j]? = some y → meetB y ⟨b, s, rd, true, false, sc⟩ = false) ∧ Gr w0 wr) (fun _ v7 _ => n - (intOf v7).toNat)
  case atStart => exact ⟨0, rfl, by simp, Nat.zero_le _, fun j x h => by omega, by rw [← HW0L.out]; exact Gr.refl _⟩
  case round =>
    obtain ⟨k, rfl, rfl, hk, hno, hgr⟩ := hrel
    have HNO := Lib.hid hno
    have HGR := Lib.hid hgr
    have ht := gcell HT0.out hgr
    have HT := Lib.hid ht
    have HBR := Lib.hid (HBX.out.gr hgr)
    obtain ⟨mq, hmq⟩ : ∃ mq, min k q = mq := ⟨_, rfl⟩
    have HMQ := Lib.hid hmq
    rw [hmq]
    clear hno hgr hmq
    by_cases hkn : k < n
    · have hkI : (k : Int) < (n : Int) := by omega
      obtain ⟨y, hy⟩ := ent (t := t) (j := k) (by rw [HN.out]; exact hkn)
      obtain ⟨g, hA, _, hr⟩ := (HP0.out.bel HGR.out).reg k y hy
      subst hA
      have HY := Lib.hid hy
      have HFY := Lib.hid (HKT.out.ok k y hy).fit
      have HPY := Lib.hid (HKT.out.ok k y hy).pos
      have HR := Lib.hid hr
      obtain ⟨yb, hyb⟩ : ∃ yb, y.b = yb := ⟨_, rfl⟩
      have HYB := Lib.hid hyb
      have HY0 := Lib.hid (show wr.cell? ⟨g, k * 6, none⟩ = some (.int .u64 (yb : Nat)) from by have := hr 0 _ rfl; rw [hyb] at this; exact this)
      have HX0 := Lib.hid (show wr.cell? ⟨w.heap.size, 0, none⟩ = some (.int .u64 (b : Nat)) from HBR.out.cell 0)
      have HC1 := Lib.hid (fun w => has_any y b w HFY.out HBU.out)
      have HC2 := Lib.hid (fun w => has_any ⟨b, s, rd, true, false, sc⟩ yb w HFX.out (by rw [← hyb]; exact HFY.out.1))
      have HM := Lib.hid (show (hasB y b || hasB ⟨b, s, rd, true, false, sc⟩ yb) = meetB y ⟨b, s, rd, true, false, sc⟩ from by have := meet_has y ⟨b, s, rd, true, false, sc⟩ HPY.out HSP.out; rwa [hyb] at this)
      obtain ⟨B1, hB1⟩ : ∃ B1, hasB y b = B1 := ⟨_, rfl⟩
      obtain ⟨B2, hB2⟩ : ∃ B2, hasB ⟨b, s, rd, true, false, sc⟩ yb = B2 := ⟨_, rfl⟩
      rw [hB1] at HC1 HM
      rw [hB2] at HC2 HM
      clear hy hr hyb hB1 hB2
      go_upto_region 12 with (fail)
      refine wp_region_L (fun w_ => Gr wr w_) [] [] (by kernel_rfl) (Gr.drew _) ?_
      refine wpAnyL_take (oi := _) (v := _) (fun _ _ hS_ hb_ => Gr.trans hS_ hb_) (i := 0) rfl (by kernel_rfl) (fun _ _ _ h => h) (pureG (by rfl) (by intro w; go_simp; first | done | with_reducible rfl)) ?_
      try simp only [Act.put, List.getElem_toArray, List.getElem_cons_succ, List.getElem_cons_zero, List.setIfInBounds_toArray, List.set_cons_zero, List.set_cons_succ]
      refine wpAnyL_take (oi := _) (v := _) (fun _ _ hS_ hb_ => Gr.trans hS_ hb_) (i := 1) rfl (by kernel_rfl) (fun _ _ _ h => h) (pureG (by rfl) (by intro w; go_simp; first | done | with_reducible rfl)) ?_
      try simp only [Act.put, List.getElem_toArray, List.getElem_cons_succ, List.getElem_cons_zero, List.setIfInBounds_toArray, List.set_cons_zero, List.set_cons_succ]
      refine wpAnyL_take (oi := _) (v := _) (fun _ _ hS_ hb_ => Gr.trans hS_ hb_) (i := 2) rfl (by kernel_rfl) (fun _ _ _ h => h) (pureG (by rfl) (by intro w; go_simp; first | done | with_reducible rfl)) ?_
      try simp only [Act.put, List.getElem_toArray, List.getElem_cons_succ, List.getElem_cons_zero, List.setIfInBounds_toArray, List.set_cons_zero, List.set_cons_succ]
      refine wpAnyL_take (oi := _) (v := _) (fun _ _ hS_ hb_ => Gr.trans hS_ hb_) (i := 3) rfl (by kernel_rfl) (fun _ _ _ h => h) (worldG (by rfl) (by intro w_ hS_; have q0_ := gcell HT.out hS_; go_simp; first | done | with_reducible rfl)) ?_
      try simp only [Act.put, List.getElem_toArray, List.getElem_cons_succ, List.getElem_cons_zero, List.setIfInBounds_toArray, List.set_cons_zero, List.set_cons_succ]
      refine wpAnyL_take (oi := _) (v := _) (fun _ _ hS_ hb_ => Gr.trans hS_ hb_) (i := 4) rfl (by kernel_rfl) (fun _ _ _ h => h) (pureG (by rfl) (by intro w; go_simp; first | done | with_reducible rfl)) ?_
      try simp only [Act.put, List.getElem_toArray, List.getElem_cons_succ, List.getElem_cons_zero, List.setIfInBounds_toArray, List.set_cons_zero, List.set_cons_succ]
      refine wpAnyL_take (oi := _) (v := _) (fun _ _ hS_ hb_ => Gr.trans hS_ hb_) (i := 5) rfl (by kernel_rfl) (fun _ _ _ h => h) (pureG (by rfl) (by intro w; go_simp; first | done | with_reducible rfl)) ?_
      try simp only [Act.put, List.getElem_toArray, List.getElem_cons_succ, List.getElem_cons_zero, List.setIfInBounds_toArray, List.set_cons_zero, List.set_cons_succ]
      refine wpAnyL_take (oi := _) (v := _) (fun _ _ hS_ hb_ => Gr.trans hS_ hb_) (i := 6) rfl (by kernel_rfl) (fun _ _ _ h => h) (loadG (by rfl) 34 (.tmp 49) rfl (g) (k * 6) rfl (regD y) _ (fun w_ hS_ => grange (HR.out) hS_) Try.underlying34 rfl (by rw [info34]; rfl)) ?_
      try simp only [Act.put, List.getElem_toArray, List.getElem_cons_succ, List.getElem_cons_zero, List.setIfInBounds_toArray, List.set_cons_zero, List.set_cons_succ]
      refine wpAnyL_take (oi := _) (v := _) (fun _ _ hS_ hb_ => Gr.trans hS_ hb_) (i := 7) rfl (by kernel_rfl) (fun _ _ _ h => h) (pureG (by rfl) (by intro w; go_simp; first | done | with_reducible rfl)) ?_
      try simp only [Act.put, List.getElem_toArray, List.getElem_cons_succ, List.getElem_cons_zero, List.setIfInBounds_toArray, List.set_cons_zero, List.set_cons_succ]
      refine wpAnyL_take (oi := _) (v := _) (fun _ _ hS_ hb_ => Gr.trans hS_ hb_) (i := 8) rfl (by kernel_rfl) (fun _ _ _ h => h) (worldG (by rfl) (by intro w_ hS_; have q0_ := gcell HX0.out hS_; go_simp; first | done | with_reducible rfl)) ?_
      try simp only [Act.put, List.getElem_toArray, List.getElem_cons_succ, List.getElem_cons_zero, List.setIfInBounds_toArray, List.set_cons_zero, List.set_cons_succ]
      refine wpAnyL_take (oi := _) (v := _) (fun _ _ hS_ hb_ => Gr.trans hS_ hb_) (i := 9) rfl (by kernel_rfl) (fun _ _ _ h => h) (callG (by rfl) rfl Try.func42 (by kernel_rfl) (by kernel_rfl) #[.agg (regD y).toArray, .int .u64 (b : Nat)] (by simp [Act.eval]) (fun w_ hS_ => HC1.out w_)) ?_
      try simp only [Act.put, List.getElem_toArray, List.getElem_cons_succ, List.getElem_cons_zero, List.setIfInBounds_toArray, List.set_cons_zero, List.set_cons_succ]
      refine wpAnyL_take (oi := _) (v := _) (fun _ _ hS_ hb_ => Gr.trans hS_ hb_) (i := 10) rfl (by kernel_rfl) (fun _ _ _ h => h) (pureG (by rfl) (by intro w; go_simp; first | done | with_reducible rfl)) ?_
      try simp only [Act.put, List.getElem_toArray, List.getElem_cons_succ, List.getElem_cons_zero, List.setIfInBounds_toArray, List.set_cons_zero, List.set_cons_succ]
      refine wpAnyL_done (by kernel_rfl) (fun WA hWA => ?_) _
      have HGA := Lib.hid (show Gr wr WA from (Gr.drew wr).trans hWA)
      clear hWA ht
      have HTA := Lib.hid (gcell HT.out HGA.out)
      have HYA := Lib.hid (gcell HY0.out HGA.out)
      have HBA2 := Lib.hid (HBR.out.gr HGA.out)
      go_upto_region 13 with (fail)
      refine wp_region_L (fun w_ => Gr WA w_) [] [] (by kernel_rfl) (Gr.drew _) ?_
      refine wpAnyL_take (oi := _) (v := _) (fun _ _ hS_ hb_ => Gr.trans hS_ hb_) (i := 0) rfl (by kernel_rfl) (fun _ _ _ h => h) (loadG (by rfl) 34 (.tmp 3) rfl (w.heap.size) (0) rfl (regD ⟨b, s, rd, true, false, sc⟩) _ (fun w_ hS_ => grange (blk_all HBA2.out) hS_) Try.underlying34 rfl (by rw [info34]; rfl)) ?_
      try simp only [Act.put, List.getElem_toArray, List.getElem_cons_succ, List.getElem_cons_zero, List.setIfInBounds_toArray, List.set_cons_zero, List.set_cons_succ]
      refine wpAnyL_take (oi := _) (v := _) (fun _ _ hS_ hb_ => Gr.trans hS_ hb_) (i := 1) rfl (by kernel_rfl) (fun _ _ _ h => h) (pureG (by rfl) (by intro w; go_simp; first | done | with_reducible rfl)) ?_
      try simp only [Act.put, List.getElem_toArray, List.getElem_cons_succ, List.getElem_cons_zero, List.setIfInBounds_toArray, List.set_cons_zero, List.set_cons_succ]
      refine wpAnyL_take (oi := _) (v := _) (fun _ _ hS_ hb_ => Gr.trans hS_ hb_) (i := 2) rfl (by kernel_rfl) (fun _ _ _ h => h) (pureG (by rfl) (by intro w; go_simp; first | done | with_reducible rfl)) ?_
      try simp only [Act.put, List.getElem_toArray, List.getElem_cons_succ, List.getElem_cons_zero, List.setIfInBounds_toArray, List.set_cons_zero, List.set_cons_succ]
      refine wpAnyL_take (oi := _) (v := _) (fun _ _ hS_ hb_ => Gr.trans hS_ hb_) (i := 3) rfl (by kernel_rfl) (fun _ _ _ h => h) (pureG (by rfl) (by intro w; go_simp; first | done | with_reducible rfl)) ?_
      try simp only [Act.put, List.getElem_toArray, List.getElem_cons_succ, List.getElem_cons_zero, List.setIfInBounds_toArray, List.set_cons_zero, List.set_cons_succ]
      refine wpAnyL_take (oi := _) (v := _) (fun _ _ hS_ hb_ => Gr.trans hS_ hb_) (i := 4) rfl (by kernel_rfl) (fun _ _ _ h => h) (worldG (by rfl) (by intro w_ hS_; have q0_ := gcell HTA.out hS_; go_simp; first | done | with_reducible rfl)) ?_
      try simp only [Act.put, List.getElem_toArray, List.getElem_cons_succ, List.getElem_cons_zero, List.setIfInBounds_toArray, List.set_cons_zero, List.set_cons_succ]
      refine wpAnyL_take (oi := _) (v := _) (fun _ _ hS_ hb_ => Gr.trans hS_ hb_) (i := 5) rfl (by kernel_rfl) (fun _ _ _ h => h) (pureG (by rfl) (by intro w; go_simp; first | done | with_reducible rfl)) ?_
      try simp only [Act.put, List.getElem_toArray, List.getElem_cons_succ, List.getElem_cons_zero, List.setIfInBounds_toArray, List.set_cons_zero, List.set_cons_succ]
      refine wpAnyL_take (oi := _) (v := _) (fun _ _ hS_ hb_ => Gr.trans hS_ hb_) (i := 6) rfl (by kernel_rfl) (fun _ _ _ h => h) (pureG (by rfl) (by intro w; go_simp; first | done | with_reducible rfl)) ?_
      try simp only [Act.put, List.getElem_toArray, List.getElem_cons_succ, List.getElem_cons_zero, List.setIfInBounds_toArray, List.set_cons_zero, List.set_cons_succ]
      refine wpAnyL_take (oi := _) (v := _) (fun _ _ hS_ hb_ => Gr.trans hS_ hb_) (i := 7) rfl (by kernel_rfl) (fun _ _ _ h => h) (pureG (by rfl) (by intro w; go_simp; first | done | with_reducible rfl)) ?_
      try simp only [Act.put, List.getElem_toArray, List.getElem_cons_succ, List.getElem_cons_zero, List.setIfInBounds_toArray, List.set_cons_zero, List.set_cons_succ]
      refine wpAnyL_take (oi := _) (v := _) (fun _ _ hS_ hb_ => Gr.trans hS_ hb_) (i := 8) rfl (by kernel_rfl) (fun _ _ _ h => h) (worldG (by rfl) (by intro w_ hS_; have q0_ := gcell HYA.out hS_; go_simp; first | done | with_reducible rfl)) ?_
      try simp only [Act.put, List.getElem_toArray, List.getElem_cons_succ, List.getElem_cons_zero, List.setIfInBounds_toArray, List.set_cons_zero, List.set_cons_succ]
      refine wpAnyL_take (oi := _) (v := _) (fun _ _ hS_ hb_ => Gr.trans hS_ hb_) (i := 9) rfl (by kernel_rfl) (fun _ _ _ h => h) (callG (by rfl) rfl Try.func42 (by kernel_rfl) (by kernel_rfl) #[.agg (regD ⟨b, s, rd, true, false, sc⟩).toArray, .int .u64 (yb : Nat)] (by simp [Act.eval]) (fun w_ hS_ => HC2.out w_)) ?_
      try simp only [Act.put, List.getElem_toArray, List.getElem_cons_succ, List.getElem_cons_zero, List.setIfInBounds_toArray, List.set_cons_zero, List.set_cons_succ]
      refine wpAnyL_take (oi := _) (v := _) (fun _ _ hS_ hb_ => Gr.trans hS_ hb_) (i := 10) rfl (by kernel_rfl) (fun _ _ _ h => h) (pureG (by rfl) (by intro w; go_simp; first | done | with_reducible rfl)) ?_
      try simp only [Act.put, List.getElem_toArray, List.getElem_cons_succ, List.getElem_cons_zero, List.setIfInBounds_toArray, List.set_cons_zero, List.set_cons_succ]
      refine wpAnyL_done (by kernel_rfl) (fun WB hWB => ?_) _
      have HGB := Lib.hid (show Gr WA WB from (Gr.drew WA).trans hWB)
      clear hWB
      have HTB := Lib.hid (gcell HTA.out HGB.out)
      have HYB2 := Lib.hid (gcell HYA.out HGB.out)
      have HBB := Lib.hid (HBA2.out.gr HGB.out)
      have HXB := Lib.hid (show WB.cell? ⟨w.heap.size, 0, none⟩ = some (.int .u64 (b : Nat)) from HBB.out.cell 0)
      have HGW := Lib.hid ((HGR.out.trans HGA.out).trans HGB.out)
      have hcase : B1 = true ∨ (B1 = false ∧ B2 = true) ∨ (B1 = false ∧ B2 = false) := by cases B1 <;> cases B2 <;> simp
      have HHIT := Lib.hid (show (B1 = true ∨ B2 = true) → E = 162 ∧ T2 = t from fun h => by
        refine HYES.out ?_
        exact hits_here HKT.out ⟨b, s, rd, true, false, sc⟩ y k HY.out (by rw [← HM.out]; rcases h with h | h <;> rw [h] <;> simp))
      rcases hcase with rfl | ⟨rfl, rfl⟩ | ⟨rfl, rfl⟩
      · have HET := Lib.hid (HHIT.out (.inl rfl))
        go_wp2_with fail
        go_ret
        rw [HET.out.1, HET.out.2]
        exact DDone.same HP.out (HG0.out.trans HGW.out)
      · have HET := Lib.hid (HHIT.out (.inr rfl))
        go_wp2_with fail
        go_ret
        rw [HET.out.1, HET.out.2]
        exact DDone.same HP.out (HG0.out.trans HGW.out)
      · have HNM := Lib.hid (show ∀ (j : Nat) (z : Reg), j < k + 1 → t[j]? = some z → meetB z ⟨b, s, rd, true, false, sc⟩ = false from fun j z hj hz => by
          rcases Nat.lt_succ_iff_lt_or_eq.1 hj with h | h
          · exact HNO.out j z h hz
          · subst h; rw [HY.out] at hz; injection hz with hz; subst hz; exact HM.out.symm)
        have hnm := of_decide_eq_false (HNM.out k y (by omega) HY.out)
        go_upto_region 16 with (fail)
        refine wp_region_L (fun w_ => Gr WB w_) [] [] (by kernel_rfl) (Gr.drew _) ?_
        refine wpAnyL_take (oi := _) (v := _) (fun _ _ hS_ hb_ => Gr.trans hS_ hb_) (i := 0) rfl (by kernel_rfl) (fun _ _ _ h => h) (pureG (by rfl) (by intro w; go_simp; first | done | with_reducible rfl)) ?_
        try simp only [Act.put, List.getElem_toArray, List.getElem_cons_succ, List.getElem_cons_zero, List.setIfInBounds_toArray, List.set_cons_zero, List.set_cons_succ]
        refine wpAnyL_take (oi := _) (v := _) (fun _ _ hS_ hb_ => Gr.trans hS_ hb_) (i := 1) rfl (by kernel_rfl) (fun _ _ _ h => h) (pureG (by rfl) (by intro w; go_simp; first | done | with_reducible rfl)) ?_
        try simp only [Act.put, List.getElem_toArray, List.getElem_cons_succ, List.getElem_cons_zero, List.setIfInBounds_toArray, List.set_cons_zero, List.set_cons_succ]
        refine wpAnyL_take (oi := _) (v := _) (fun _ _ hS_ hb_ => Gr.trans hS_ hb_) (i := 2) rfl (by kernel_rfl) (fun _ _ _ h => h) (pureG (by rfl) (by intro w; go_simp; first | done | with_reducible rfl)) ?_
        try simp only [Act.put, List.getElem_toArray, List.getElem_cons_succ, List.getElem_cons_zero, List.setIfInBounds_toArray, List.set_cons_zero, List.set_cons_succ]
        refine wpAnyL_take (oi := _) (v := _) (fun _ _ hS_ hb_ => Gr.trans hS_ hb_) (i := 3) rfl (by kernel_rfl) (fun _ _ _ h => h) (worldG (by rfl) (by intro w_ hS_; have q0_ := gcell HTB.out hS_; go_simp; first | done | with_reducible rfl)) ?_
        try simp only [Act.put, List.getElem_toArray, List.getElem_cons_succ, List.getElem_cons_zero, List.setIfInBounds_toArray, List.set_cons_zero, List.set_cons_succ]
        refine wpAnyL_take (oi := _) (v := _) (fun _ _ hS_ hb_ => Gr.trans hS_ hb_) (i := 4) rfl (by kernel_rfl) (fun _ _ _ h => h) (pureG (by rfl) (by intro w; go_simp; first | done | with_reducible rfl)) ?_
        try simp only [Act.put, List.getElem_toArray, List.getElem_cons_succ, List.getElem_cons_zero, List.setIfInBounds_toArray, List.set_cons_zero, List.set_cons_succ]
        refine wpAnyL_take (oi := _) (v := _) (fun _ _ hS_ hb_ => Gr.trans hS_ hb_) (i := 5) rfl (by kernel_rfl) (fun _ _ _ h => h) (pureG (by rfl) (by intro w; go_simp; first | done | with_reducible rfl)) ?_
        try simp only [Act.put, List.getElem_toArray, List.getElem_cons_succ, List.getElem_cons_zero, List.setIfInBounds_toArray, List.set_cons_zero, List.set_cons_succ]
        refine wpAnyL_take (oi := _) (v := _) (fun _ _ hS_ hb_ => Gr.trans hS_ hb_) (i := 6) rfl (by kernel_rfl) (fun _ _ _ h => h) (pureG (by rfl) (by intro w; go_simp; first | done | with_reducible rfl)) ?_
        try simp only [Act.put, List.getElem_toArray, List.getElem_cons_succ, List.getElem_cons_zero, List.setIfInBounds_toArray, List.set_cons_zero, List.set_cons_succ]
        refine wpAnyL_take (oi := _) (v := _) (fun _ _ hS_ hb_ => Gr.trans hS_ hb_) (i := 7) rfl (by kernel_rfl) (fun _ _ _ h => h) (worldG (by rfl) (by intro w_ hS_; have q0_ := gcell HYB2.out hS_; go_simp; first | done | with_reducible rfl)) ?_
        try simp only [Act.put, List.getElem_toArray, List.getElem_cons_succ, List.getElem_cons_zero, List.setIfInBounds_toArray, List.set_cons_zero, List.set_cons_succ]
        refine wpAnyL_take (oi := _) (v := _) (fun _ _ hS_ hb_ => Gr.trans hS_ hb_) (i := 8) rfl (by kernel_rfl) (fun _ _ _ h => h) (pureG (by rfl) (by intro w; go_simp; first | done | with_reducible rfl)) ?_
        try simp only [Act.put, List.getElem_toArray, List.getElem_cons_succ, List.getElem_cons_zero, List.setIfInBounds_toArray, List.set_cons_zero, List.set_cons_succ]
        refine wpAnyL_take (oi := _) (v := _) (fun _ _ hS_ hb_ => Gr.trans hS_ hb_) (i := 9) rfl (by kernel_rfl) (fun _ _ _ h => h) (worldG (by rfl) (by intro w_ hS_; have q0_ := gcell HXB.out hS_; go_simp; first | done | with_reducible rfl)) ?_
        try simp only [Act.put, List.getElem_toArray, List.getElem_cons_succ, List.getElem_cons_zero, List.setIfInBounds_toArray, List.set_cons_zero, List.set_cons_succ]
        refine wpAnyL_take (oi := _) (v := _) (fun _ _ hS_ hb_ => Gr.trans hS_ hb_) (i := 10) rfl (by kernel_rfl) (fun _ _ _ h => h) (pureG (by rfl) (by intro w; go_simp; first | done | with_reducible rfl)) ?_
        try simp only [Act.put, List.getElem_toArray, List.getElem_cons_succ, List.getElem_cons_zero, List.setIfInBounds_toArray, List.set_cons_zero, List.set_cons_succ]
        refine wpAnyL_done (by kernel_rfl) (fun WC hWC => ?_) _
        have HGC := Lib.hid (HGW.out.trans ((Gr.drew WB).trans hWC))
        clear hWC
        by_cases hlt : yb < b
        · have HMIN := Lib.hid (show min (k + 1) q = k + 1 from by
            have h1 : k < q := by
              rcases Nat.lt_or_ge k q with h | h
              · exact h
              · have := bh_ge HKT.out b k y HY.out (by rw [HQ.out]; exact h)
                have := HYB.out
                have := HSP.out
                simp only at hnm
                omega
            omega)
          have hd : decide (yb < b) = true := decide_eq_true hlt
          clear hnm
          go_wp2_with fail
          go_roundw
          case rel => exact ⟨k + 1, by go_num, by rw [HMIN.out]; go_num, hkn, HNM.out, HGC.out⟩
          case measure => simp [intOf]; omega
        · have HMIN := Lib.hid (show min (k + 1) q = mq from by
            have h1 : q ≤ k := by
              rcases Nat.lt_or_ge k q with h | h
              · have := bh_lt t b k y HY.out (by rw [HQ.out]; exact h)
                have := HYB.out
                have := HPY.out
                omega
              · exact h
            rw [← HMQ.out]
            omega)
          have hd : decide (yb < b) = false := decide_eq_false hlt
          clear hnm
          go_wp2_with fail
          go_roundw
          case rel => exact ⟨k + 1, by go_num, by rw [HMIN.out], hkn, HNM.out, HGC.out⟩
          case measure => simp [intOf]; omega
    · obtain rfl : k = n := by omega
      have HET := Lib.hid (HNOT.out (hits_none ⟨b, s, rd, true, false, sc⟩ (fun j y hy => HNO.out j y (by have := len_of hy; rw [HN.out] at this; exact this) hy)))
      have eq : mq = q := by have := HMQ.out; have := HLE.out; rw [HN.out] at this; omega
      have HEQ := Lib.hid eq
      have hqn : mq ≤ k := by have := HMQ.out; omega
      have HPR := Lib.hid (HP0.out.bel HGR.out)
      have hqI : (mq : Int) ≤ (k : Int) := by omega
      have hin1 := HP0.out.head mq (by rw [HN.out]; exact hqn)
      have HWW := Lib.hid HG0.out.size
      have HIN1 := Lib.hid hin1
      obtain ⟨e0, e1, e2, e3, e4, e5⟩ := reg6 (blk_all HBR.out)
      have hb0 : w0.heap.size ≤ wr.heap.size := HGR.out.size
      have hbw0 : base ≤ w0.heap.size := Nat.le_trans HBW.out HG0.out.size
      have HBW0 := Lib.hid hbw0
      have HB0 := Lib.hid hb0
      have hq16 : mq ≤ 16 := by omega
      clear hb0 hbw0 hin1 eq
      cases A with
      | none =>
        obtain ⟨ht0, hc0⟩ := HPR.out.tail0
        subst hc0
        have hk0 : k = 0 := by rw [← HN.out, ht0]; rfl
        clear ht0
        subst hk0
        obtain rfl : mq = 0 := by omega
        have HI2 := Lib.hid (show RIn w0 none 0 0 (t.drop 0) from ⟨by rw [List.length_drop, HN.out], (fun _ => ⟨rfl, rfl⟩), .inl rfl⟩)
        go_wp2_with (first
          | (at_builtin; refine wpList_append_regs _ rfl (.tmp 81) (.tmp 87) rfl w0.heap.size 0 0 0 0 none none [] (t.take 0) rfl rfl (by omega) (by omega) (own_nil _ _ _ _) (HIN1.out.gr HGR.out) HB0.out ?_; intro V1 c1 w1 hown1 hg1; have HG1 := Lib.hid (gr_own HGR.out (own_nil wr w0.heap.size 34 6) hg1); have ht1 := gcell HT0.out HG1.out; obtain ⟨f0, f1, f2, f3, f4, f5⟩ := reg6 (blk_all (HBX.out.gr HG1.out)); have HO1 := Lib.hid (show w1.ownsRow w0.heap.size 34 6 (.slice V1 0 c1) 0 (cellsD (t.take 0)) from by simpa using hown1); clear hown1 hg1)
          | (at_builtin; refine wpList_append_regs _ rfl (.tmp 89) (.tmp 91) rfl w0.heap.size 0 1 1 c1 V1 (some ⟨w1.heap.size, 0, none⟩) (t.take 0) [⟨b, s, rd, true, false, sc⟩] rfl rfl (by omega) (by omega) (own_below HO1.out (Gr.alloc w1 _)) (rin_one w1 ⟨b, s, rd, true, false, sc⟩) (Nat.le_trans HG1.out.size (Gr.alloc w1 _).size) ?_; intro V2 c2 w2 hown2 hg2; have HG2 := Lib.hid (gr_own (HG1.out.trans (Gr.alloc w1 _)) (own_below HO1.out (Gr.alloc w1 _)) hg2); have ht2 := gcell HT0.out HG2.out; have HO2 := Lib.hid hown2; clear hown2 hg2)
          | (at_builtin; refine wpList_append_regs _ rfl (.tmp 94) (.tmp 100) rfl w0.heap.size (0 + 1) 0 0 c2 V2 none (t.take 0 ++ [⟨b, s, rd, true, false, sc⟩]) (t.drop 0) rfl rfl (by omega) (by omega) HO2.out (HI2.out.gr HG2.out) HG2.out.size ?_; intro V3 c3 w3 hown3 hg3; have HG3 := Lib.hid (gr_own HG2.out HO2.out hg3); have ht3 := gcell HT0.out HG3.out; have hf3 := (HP0.out.bel HG3.out).blk.free 65536; have HO3 := Lib.hid (own_mono hown3 HWW.out); clear hown3 hg3))
        go_ret
        rw [HET.out.1, HET.out.2, ← HEQ.out, show t.take 0 ++ (⟨b, s, rd, true, false, sc⟩ :: t.drop 0) = t.take 0 ++ [⟨b, s, rd, true, false, sc⟩] ++ t.drop 0 by simp]
        exact DDone.put HP.out HKM.out HBA.out HBW.out (HG0.out.trans HG3.out) (by rw [List.length_append, List.length_append, List.length_take, List.length_drop, HN.out]; simp <;> omega) HO3.out
      | some ad =>
        obtain ⟨g, hg⟩ : ∃ g, ad = ⟨g, 0, none⟩ := by
          rcases HPR.out.row.2 with ⟨he, _⟩ | ⟨g', cap, cur, he, _⟩
          · cases he
          · injection he with e1; injection e1 with e1; exact ⟨g', e1⟩
        subst hg
        obtain ⟨hin2, hnc⟩ := HP0.out.tail2 mq (by rw [HN.out]; exact hqn)
        rw [HN.out] at hin2 hnc
        have HIN2 := Lib.hid hin2
        have hqc : (mq : Int) ≤ (c : Int) := by omega
        clear hin2
        by_cases hci : c = mq
        · have hci2 := hci.symm
          clear hci HIN2
          subst hci2
          have ekm : k = mq := by omega
          subst ekm
          have HI2 := Lib.hid (show RIn w0 (some ⟨g, 0, none⟩) 0 0 (t.drop k) from ⟨by rw [List.length_drop, HN.out]; omega, (fun e => by cases e), .inl rfl⟩)
          clear hnc
          go_wp2_with (first
            | (at_builtin; refine wpList_append_regs _ rfl (.tmp 81) (.tmp 87) rfl w0.heap.size 0 k k 0 none (some ⟨g, 0, none⟩) [] (t.take k) rfl rfl (by omega) (by omega) (own_nil _ _ _ _) (HIN1.out.gr HGR.out) HB0.out ?_; intro V1 c1 w1 hown1 hg1; have HG1 := Lib.hid (gr_own HGR.out (own_nil wr w0.heap.size 34 6) hg1); have ht1 := gcell HT0.out HG1.out; obtain ⟨f0, f1, f2, f3, f4, f5⟩ := reg6 (blk_all (HBX.out.gr HG1.out)); have HO1 := Lib.hid (show w1.ownsRow w0.heap.size 34 6 (.slice V1 k c1) k (cellsD (t.take k)) from by simpa using hown1); clear hown1 hg1)
            | (at_builtin; refine wpList_append_regs _ rfl (.tmp 89) (.tmp 91) rfl w0.heap.size k 1 1 c1 V1 (some ⟨w1.heap.size, 0, none⟩) (t.take k) [⟨b, s, rd, true, false, sc⟩] rfl rfl (by omega) (by omega) (own_below HO1.out (Gr.alloc w1 _)) (rin_one w1 ⟨b, s, rd, true, false, sc⟩) (Nat.le_trans HG1.out.size (Gr.alloc w1 _).size) ?_; intro V2 c2 w2 hown2 hg2; have HG2 := Lib.hid (gr_own (HG1.out.trans (Gr.alloc w1 _)) (own_below HO1.out (Gr.alloc w1 _)) hg2); have ht2 := gcell HT0.out HG2.out; have HO2 := Lib.hid hown2; clear hown2 hg2)
            | (at_builtin; refine wpList_append_regs _ rfl (.tmp 94) (.tmp 100) rfl w0.heap.size (k + 1) 0 0 c2 V2 (some ⟨g, 0, none⟩) (t.take k ++ [⟨b, s, rd, true, false, sc⟩]) (t.drop k) rfl rfl (by omega) (by omega) HO2.out (HI2.out.gr HG2.out) HG2.out.size ?_; intro V3 c3 w3 hown3 hg3; have HG3 := Lib.hid (gr_own HG2.out HO2.out hg3); have ht3 := gcell HT0.out HG3.out; have hf3 := (HP0.out.bel HG3.out).blk.free 65536; have HO3 := Lib.hid (own_mono hown3 HWW.out); clear hown3 hg3))
          go_ret
          rw [HET.out.1, HET.out.2, ← HEQ.out, show t.take k ++ (⟨b, s, rd, true, false, sc⟩ :: t.drop k) = t.take k ++ [⟨b, s, rd, true, false, sc⟩] ++ t.drop k by simp]
          exact DDone.put HP.out HKM.out HBA.out HBW.out (HG0.out.trans HG3.out) (by rw [List.length_append, List.length_append, List.length_take, List.length_drop, HN.out]; simp <;> omega) HO3.out
        · have HI2 := Lib.hid (by have := HIN2.out; rwa [if_neg hci] at this : RIn w0 (some ⟨g, mq * 6, none⟩) (k - mq) (c - mq) (t.drop mq))
          go_wp2_with (first
            | (at_builtin; refine wpList_append_regs _ rfl (.tmp 81) (.tmp 87) rfl w0.heap.size 0 mq c 0 none (some ⟨g, 0, none⟩) [] (t.take mq) rfl rfl (by omega) (by omega) (own_nil _ _ _ _) (HIN1.out.gr HGR.out) HB0.out ?_; intro V1 c1 w1 hown1 hg1; have HG1 := Lib.hid (gr_own HGR.out (own_nil wr w0.heap.size 34 6) hg1); have ht1 := gcell HT0.out HG1.out; obtain ⟨f0, f1, f2, f3, f4, f5⟩ := reg6 (blk_all (HBX.out.gr HG1.out)); have HO1 := Lib.hid (show w1.ownsRow w0.heap.size 34 6 (.slice V1 mq c1) mq (cellsD (t.take mq)) from by simpa using hown1); clear hown1 hg1)
            | (at_builtin; refine wpList_append_regs _ rfl (.tmp 89) (.tmp 91) rfl w0.heap.size mq 1 1 c1 V1 (some ⟨w1.heap.size, 0, none⟩) (t.take mq) [⟨b, s, rd, true, false, sc⟩] rfl rfl (by omega) (by omega) (own_below HO1.out (Gr.alloc w1 _)) (rin_one w1 ⟨b, s, rd, true, false, sc⟩) (Nat.le_trans HG1.out.size (Gr.alloc w1 _).size) ?_; intro V2 c2 w2 hown2 hg2; have HG2 := Lib.hid (gr_own (HG1.out.trans (Gr.alloc w1 _)) (own_below HO1.out (Gr.alloc w1 _)) hg2); have ht2 := gcell HT0.out HG2.out; have HO2 := Lib.hid hown2; clear hown2 hg2)
            | (at_builtin; refine wpList_append_regs _ rfl (.tmp 94) (.tmp 100) rfl w0.heap.size (mq + 1) (k - mq) (c - mq) c2 V2 (some ⟨g, mq * 6, none⟩) (t.take mq ++ [⟨b, s, rd, true, false, sc⟩]) (t.drop mq) rfl rfl (by omega) (by omega) HO2.out (HI2.out.gr HG2.out) HG2.out.size ?_; intro V3 c3 w3 hown3 hg3; have HG3 := Lib.hid (gr_own HG2.out HO2.out hg3); have ht3 := gcell HT0.out HG3.out; have hf3 := (HP0.out.bel HG3.out).blk.free 65536; have HO3 := Lib.hid (own_mono hown3 HWW.out); clear hown3 hg3))
          go_ret
          rw [HET.out.1, HET.out.2, ← HEQ.out, show t.take mq ++ (⟨b, s, rd, true, false, sc⟩ :: t.drop mq) = t.take mq ++ [⟨b, s, rd, true, false, sc⟩] ++ t.drop mq by simp]
          exact DDone.put HP.out HKM.out HBA.out HBW.out (HG0.out.trans HG3.out) (by rw [List.length_append, List.length_append, List.length_take, List.length_drop, HN.out]; simp <;> omega) HO3.out

/-- Add of the document, whatever it answers -/
theorem radd_any (base a : Nat) (x : Reg) (m : List Nat) (t : List Reg) (A : Option Addr) (c : Nat) (w : World) (hp : RAt w base a m t A c) (km : MOk m) (kt : TOk t) (hba : base ≤ a) (hbw : base ≤ w.heap.size) (hx : RFit x) :
    Calls Try.prog 24 #[.pointer (some ⟨a, 0, none⟩), .agg (regD x).toArray] w (DDone base a (.int .i64 (addE t x)) m (addT t x) w) := by
  obtain ⟨b, s, rd, wrt, ex, sc⟩ := x
  obtain ⟨hb, hs⟩ := hx
  simp only at hb hs
  by_cases h16 : t.length = 16
  · have e1 : addE t ⟨b, s, rd, wrt, ex, sc⟩ = 164 := by unfold addE; rw [if_pos h16]
    rw [addT_no (by rw [e1]; decide), e1]
    exact radd_many base a b s rd wrt ex sc m t A c w hp km kt h16
  have h15 : t.length ≤ 15 := by have := kt.len; omega
  by_cases hz : s = 0
  · have e1 : addE t ⟨b, s, rd, wrt, ex, sc⟩ = 161 := by unfold addE; rw [if_neg h16, if_pos (.inl hz)]
    rw [addT_no (by rw [e1]; decide), e1]
    exact radd_zero base a b s rd wrt ex sc m t A c w hp km kt h16 hz hb hs
  by_cases hw : wiB b s = false
  · have e1 : addE t ⟨b, s, rd, wrt, ex, sc⟩ = 161 := by unfold addE; rw [if_neg h16, if_pos (.inr hw)]
    rw [addT_no (by rw [e1]; decide), e1]
    exact radd_out base a b s rd wrt ex sc m t A c w hp km kt h16 hz hb hs hw
  have hw1 : wiB b s = true := by simpa using hw
  have hno : ¬ (s = 0 ∨ wiB b s = false) := fun h => h.elim hz hw
  by_cases hr : (wrt && ex) = true
  · have e1 : addE t ⟨b, s, rd, wrt, ex, sc⟩ = 163 := by unfold addE; rw [if_neg h16, if_neg hno, if_pos hr]
    rw [addT_no (by rw [e1]; decide), e1]
    obtain ⟨rfl, rfl⟩ : wrt = true ∧ ex = true := by simpa using hr
    exact radd_rights base a b s rd sc m t A c w hp km kt h16 hz hb hs hw1
  have e0 : addE t ⟨b, s, rd, wrt, ex, sc⟩ = if hits t ⟨b, s, rd, wrt, ex, sc⟩ = true then 162 else 0 := by unfold addE; rw [if_neg h16, if_neg hno, if_neg hr]
  have eT : addT t ⟨b, s, rd, wrt, ex, sc⟩ = if hits t ⟨b, s, rd, wrt, ex, sc⟩ = true then t else t.take (bh t b) ++ (⟨b, s, rd, wrt, ex, sc⟩ :: t.drop (bh t b)) := by
    unfold addT
    rw [e0]
    by_cases hh : hits t ⟨b, s, rd, wrt, ex, sc⟩ = true
    · rw [if_pos hh, if_pos hh, if_neg (by decide)]
    · rw [if_neg hh, if_neg hh, if_pos rfl]
  rw [e0, eT]
  cases wrt
  · exact radd_main_fe base a b s _ rd ex sc m t A c w hp km kt hba hbw rfl h15 hz hb hs hw1
  · cases ex
    · exact radd_main_tf base a b s _ rd sc m t A c w hp km kt hba hbw rfl h15 hz hb hs hw1
    · exact absurd rfl hr
end Go.Proofs.Ytelfhpmbnficfaa
