/- Down of the project answers as told by plain lists. Condition: the coefficients are 32-bit numbers. -/
import Derived.Test.YtlbfnmmankoddaaDoorUp
namespace Go.Proofs.YtlbfnmmankoddaaDoor
open Go.RowKit
set_option linter.unusedVariables false
set_option linter.unusedSimpArgs false
def dnI (top : Int) (l : List Int) (i : Nat) : Int := top - cen (l.getD i 0)
def dnP (top : Int) (l : List Int) : List Int := tellI (dnI top l) 256
def dnK (top : Int) (l : List Int) (t : Nat) : List Int := tellI (fun j => if j < t then dnI top l j else l.getD j 0) 256
theorem dnK_len (top : Int) (l : List Int) (t : Nat) : (dnK top l t).length = 256 := tellI_length _ _
theorem dnP_len (top : Int) (l : List Int) : (dnP top l).length = 256 := tellI_length _ _
theorem dnK_zero (top : Int) {l : List Int} (h : l.length = 256) : dnK top l 0 = l := tellI_none _ l 256 h
theorem dnK_all (top : Int) (l : List Int) : dnK top l 256 = dnP top l := tellI_all _ _ 256
theorem dnK_succ (top : Int) (l : List Int) (t : Nat) : (dnK top l t).set t (dnI top l t) = dnK top l (t + 1) := tellI_fill (dnI top l) _ 256 t
theorem dnP_get (top : Int) (l : List Int) (i : Nat) (hi : i < 256) : (dnP top l).getD i 0 = dnI top l i := tellI_get _ _ _ hi
theorem dnI_bd {top : Int} {l : List Int} (hl : l.length = 256) (hp : pln l = true) (h1 : 0 ≤ top) (h2 : top ≤ 4194304) (i : Nat) (hi : i < 256) : -4190208 ≤ dnI top l i ∧ dnI top l i ≤ 8384512 := by
  have := cen_bd ((pln_iff hl).1 hp i hi)
  unfold dnI; omega
theorem IsP_dn {top : Int} {l : List Int} (hl : l.length = 256) (hp : pln l = true) (h1 : 0 ≤ top) (h2 : top ≤ 4194304) : IsP (dnP top l) :=
  ⟨dnP_len _ _, fun i hi => by rw [dnP_get _ _ _ hi]; have := dnI_bd hl hp h1 h2 i hi; omega⟩
theorem dnI_eq (top : Int) (l : List Int) (i : Nat) : dnI top l i = top - cen (l.getD i 0) := rfl
def dnE (l : List Int) (top bits : Int) : Nat := if cgd top bits = true then (if pln l = true ∧ inB bits.toNat (dnP top l) = true then 0 else 92) else 1
def dnL (l : List Int) (top bits : Int) : List Nat := if cgd top bits = true ∧ pln l = true ∧ inB bits.toNat (dnP top l) = true then layN bits.toNat (natL (dnP top l)) else []
theorem cgd_iff {top bits : Int} : cgd top bits = true ↔ 1 ≤ bits ∧ bits ≤ 22 ∧ 0 ≤ top ∧ top ≤ 4194304 := decide_eq_true_iff
set_option maxRecDepth 100000 in
set_option maxHeartbeats 1600000 in
theorem Down_in (l : List Int) (hl : IsP l) (top : Int) (s : Nat) (hg : cgd top (s : Nat) = true) (w : World) : Calls Tryd.prog 12 #[.agg (iv l).toArray, .int .i32 top, .int .i64 (s : Nat)] w (PkIs (if pln l = true ∧ inB s (dnP top l) = true then 0 else 92) (if pln l = true ∧ inB s (dnP top l) = true then layN s (natL (dnP top l)) else []) w) := by
  obtain ⟨g1, g2, g3, g4⟩ := cgd_iff.1 hg
  have HG := Lib.hid (fun w => canGoDown_any top (s : Nat) w)
  rw [hg] at HG
  have HP := Lib.hid (fun w => isPlain_any l hl w)
  have LL := Lib.hid hl.1
  have B1 := Lib.hid (Blk.new w 25 (iv l))
  have BEL := Lib.hid ((Below.refl w.heap.size w).alloc (Nat.le_refl _) (.cells (iv l).toArray 25))
  clear hg
  cases hp : pln l with
  | false =>
    rw [hp] at HP
    rw [if_neg (by simp), if_neg (by simp)]
    clear hp hl
    go_enter Tryd.func12, Tryd.ntmps12
    go_wp2_with (first | (go_at_call 23; refine (HG.out _).mono ?_; rintro e w' ⟨rfl, rfl⟩) | (refine wpList_load_row rfl 25 (.tmp 3) rfl w.heap.size rfl 25 (iv l).toArray (0, 0) _ B1.out Tryd.underlying25 rfl (j23 LL.out) ?_))
    refine (HP.out _).mono ?_
    rintro e w1 ⟨rfl, hb1⟩
    have hbel := BEL.out.trans (hb1.mono BEL.out.size)
    go_wp2_with fail
    go_ret2
    exact ⟨_, rfl, own_nil _ _, hbel⟩
  | true =>
    rw [hp] at HP
    have HCB := Lib.hid (fun t ht => (pln_iff hl.1).1 hp t ht)
    have hd := IsP_dn (top := top) hl.1 hp g3 g4
    have HDB := Lib.hid (fun t ht => dnI_bd (top := top) hl.1 hp g3 g4 t ht)
    have HDE := Lib.hid (fun t => dnI_eq top l t)
    have HDZ := Lib.hid (dnK_zero top hl.1)
    have HDS := Lib.hid (fun t => dnK_succ top l t)
    have HKL := Lib.hid (fun t => dnK_len top l t)
    have HDA := Lib.hid (dnK_all top l)
    have HI := Lib.hid (fun w => inBits_any (dnP top l) hd s (by omega) (by omega) w)
    have HL := Lib.hid (fun h w => laid_any (dnP top l) hd s (by omega) (by omega) h w)
    have LM := Lib.hid hd.1
    generalize layN s (natL (dnP top l)) = L at *
    obtain ⟨bb, hbb⟩ : ∃ bb, inB s (dnP top l) = bb := ⟨_, rfl⟩
    rw [hbb] at HI HL ⊢
    simp only [true_and]
    generalize dnP top l = m at *
    generalize dnK top l = K at *
    generalize hdi : dnI top l = D at *
    obtain ⟨er, her⟩ : ∃ er : Nat, (if bb = true then 0 else 92) = er := ⟨_, rfl⟩
    obtain ⟨eL, heL⟩ : ∃ eL : List Nat, (if bb = true then L else []) = eL := ⟨_, rfl⟩
    rw [her, heL]
    have HER := Lib.hid her
    have HEL := Lib.hid heL
    clear hp hl hd hbb hdi her heL
    go_enter Tryd.func12, Tryd.ntmps12
    go_wp2_with (first | (go_at_call 23; refine (HG.out _).mono ?_; rintro e w' ⟨rfl, rfl⟩) | (refine wpList_load_row rfl 25 (.tmp 3) rfl w.heap.size rfl 25 (iv l).toArray (0, 0) _ B1.out Tryd.underlying25 rfl (j23 LL.out) ?_))
    refine (HP.out _).mono ?_
    rintro e w1 ⟨rfl, hb1⟩
    have hbel := BEL.out.trans (hb1.mono BEL.out.size)
    have B2 := Lib.hid (B1.out.below' hb1)
    clear hb1 B1 BEL HP HG
    go_wp2_with (first | (refine wpList_load_row rfl 25 (.tmp 3) rfl w.heap.size rfl 25 (iv l).toArray (0, 0) _ B2.out Tryd.underlying25 rfl (j23 LL.out) ?_))
    go_loopw [18] (fun c wr => ∃ t : Nat, t ≤ 256 ∧ c = .int .i64 t ∧ Blk wr w.heap.size 25 (iv (K t)) ∧ Below w.heap.size w wr) (fun c _ => 256 - (intOf c).toNat)
    case atStart => exact ⟨0, by omega, rfl, by rw [HDZ.out]; exact B2.out, hbel⟩
    case round =>
      clear B2 hbel
      obtain ⟨t, ht, rfl, k1, hbel⟩ := hrel
      have K1 := Lib.hid k1
      clear k1
      by_cases h5 : t < 256
      · have hx := fun w => index23 w l t h5 LL.out
        obtain ⟨hb1, hb2⟩ := HCB.out t h5
        obtain ⟨hd1, hd2⟩ := HDB.out t h5
        have HC := Lib.hid (fun w => centred_any (l.getD t 0) hb1 hb2 w)
        have hcb := cen_bd ⟨hb1, hb2⟩
        have HE := Lib.hid (HDE.out t)
        have hc := K1.out.iv t (by rw [HKL.out]; exact h5)
        have hf := K1.out.free t
        have HV := Lib.hid (HDS.out t)
        have i1 : (t : Int) < 256 := by omega
        generalize D t = y at *
        generalize cen (l.getD t 0) = z at *
        generalize l.getD t 0 = x at *
        have he2 : wrap32 (top - z) = y := by rw [← HE.out]; exact wrap32_id (by have := HE.out; omega) (by have := HE.out; omega)
        have he3 := HE.out.symm
        go_wp2_with (first | (go_at_call 24; refine (HC.out _).mono ?_; rintro e w' ⟨rfl, rfl⟩))
        have k1 := K1.out.ivSet t y
        rw [HV.out] at k1
        have hb2 := hbel.setCell (p := ⟨w.heap.size, t, none⟩) (by simp) (.int .i32 y)
        go_roundw
        case rel => exact ⟨t + 1, by omega, by go_num, k1, hb2⟩
        case measure => simp [intOf]; omega
      · obtain rfl : t = 256 := by omega
        rw [HDA.out] at K1
        cases bb with
        | false =>
          obtain rfl : er = 92 := HER.out.symm
          obtain rfl : eL = [] := HEL.out.symm
          go_wp2_with (first | (refine wpList_load_row rfl 25 (.tmp 3) rfl w.heap.size rfl 25 (iv m).toArray (0, 0) _ K1.out Tryd.underlying25 rfl (j23 LM.out) ?_))
          refine (HI.out _).mono ?_
          rintro e w2 ⟨rfl, hb2⟩
          have hbel2 := hbel.trans (hb2.mono hbel.size)
          go_wp2_with fail
          go_ret2
          exact ⟨_, rfl, own_nil _ _, hbel2⟩
        | true =>
          have HL2 := Lib.hid (HL.out rfl)
          clear HL
          obtain rfl : er = 0 := HER.out.symm
          obtain rfl : eL = L := HEL.out.symm
          go_wp2_with (first | (refine wpList_load_row rfl 25 (.tmp 3) rfl w.heap.size rfl 25 (iv m).toArray (0, 0) _ K1.out Tryd.underlying25 rfl (j23 LM.out) ?_))
          refine (HI.out _).mono ?_
          rintro e w2 ⟨rfl, hb2⟩
          have hbel2 := hbel.trans (hb2.mono hbel.size)
          have B3 := Lib.hid (K1.out.below' hb2)
          go_wp2_with (first | (refine wpList_load_row rfl 25 (.tmp 3) rfl w.heap.size rfl 25 (iv m).toArray (0, 0) _ B3.out Tryd.underlying25 rfl (j23 LM.out) ?_))
          refine (HL2.out _).mono ?_
          intro e w3 hm
          obtain ⟨v, rfl, ho, hbel3⟩ := made_pk hbel2 hm
          have HO := Lib.hid ho
          clear ho hm
          obtain ⟨A, c, rfl⟩ := own_slice HO.out
          go_wp2_with fail
          go_ret2
          exact ⟨_, rfl, HO.out, hbel3⟩
set_option maxHeartbeats 1600000 in
theorem Down_arg (l : List Int) (top bits : Int) (hg : cgd top bits = false) (w : World) : Calls Tryd.prog 12 #[.agg (iv l).toArray, .int .i32 top, .int .i64 bits] w (PkIs 1 [] w) := by
  have HG := Lib.hid (fun w => canGoDown_any top bits w)
  rw [hg] at HG
  have BEL := Lib.hid ((Below.refl w.heap.size w).alloc (Nat.le_refl _) (.cells (iv l).toArray 25))
  clear hg
  go_enter Tryd.func12, Tryd.ntmps12
  go_wp2_with (first | (go_at_call 23; refine (HG.out _).mono ?_; rintro e w' ⟨rfl, rfl⟩))
  go_ret2
  exact ⟨_, rfl, own_nil _ _, BEL.out⟩
theorem Down_any (l : List Int) (hl : IsP l) (top bits : Int) (w : World) : Calls Tryd.prog 12 #[.agg (iv l).toArray, .int .i32 top, .int .i64 bits] w (PkIs (dnE l top bits) (dnL l top bits) w) := by
  cases hg : cgd top bits with
  | true =>
    obtain ⟨g1, g2, g3, g4⟩ := cgd_iff.1 hg
    obtain ⟨s, rfl⟩ : ∃ s : Nat, bits = s := ⟨bits.toNat, by omega⟩
    have := Down_in l hl top s hg w
    unfold dnE dnL
    rw [if_pos hg]
    simp only [hg, true_and, Int.toNat_natCast]
    exact this
  | false =>
    have e1 : dnE l top bits = 1 := if_neg (by rw [hg]; simp)
    have e2 : dnL l top bits = [] := if_neg (by rw [hg]; simp)
    rw [e1, e2]
    exact Down_arg l top bits hg w
end Go.Proofs.YtlbfnmmankoddaaDoor
