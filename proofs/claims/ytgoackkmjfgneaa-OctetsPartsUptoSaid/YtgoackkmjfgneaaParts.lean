/- OctetsParts answers true for every two lists, place and byte of bulk at most the given bound: the sum of a list is that of its parts, and one changed byte changes it; nothing that was in memory is changed. The condition is the second form's own. -/
import Derived.Test.YtgoackkmjfgneaaFrameB
import Derived.Test.YtgoackkmjfgneaaSums
import Derived.Test.YtgoackkmjfgneaaCut
import Derived.RegionTactic
import Derived.BigRegion
import Derived.Lib.SmallJoins
import Derived.JoinedCond
namespace Go.Proofs.Ytgoackkmjfgneaa.octetsParts
open Go.ChangeShapes Go.WideShapes Go.ChangeAt Go.RowKit Go.Joins
open Go.ChangeMaps (open_string shut_string)
set_option linter.unusedVariables false

theorem list_split (l : List Nat) (i : Nat) (h : i < l.length) : l = l.take i ++ l.getD i 0 :: l.drop (i + 1) := by
  have e : l.getD i 0 = l[i] := by rw [List.getD_eq_getElem?_getD, List.getElem?_eq_getElem h]; rfl
  rw [e, ← List.drop_eq_getElem_cons h, List.take_append_drop]
theorem set_split (l : List Nat) (i y : Nat) (h : i < l.length) : l.set i y = l.take i ++ y :: l.drop (i + 1) := List.set_eq_take_append_cons_drop ▸ by simp [h]
theorem crc_set (l : List Nat) (i z : Nat) (hl : ∀ x ∈ l, x < 256) (h : i < l.length) (hz : z < 256) (h0 : z ≠ 0) : crcOf 0 (l.set i (l.getD i 0 ^^^ z)) ≠ crcOf 0 l := by
  intro e
  rw [set_split _ _ _ h] at e
  have e2 : crcOf 0 l = crcOf 0 (l.take i ++ l.getD i 0 :: l.drop (i + 1)) := by rw [← list_split l i h]
  rw [e2] at e
  have hx := getD_lt hl i
  have hy : l.getD i 0 ^^^ z < 256 := Nat.xor_lt_two_pow (n := 8) hx hz
  have := crcOf_changed (by decide) (l.take i) (l.drop (i + 1)) _ _ (fun x hx => hl x (List.mem_of_mem_take hx)) (fun x hx => hl x (List.mem_of_mem_drop hx)) hy hx e
  have h2 := congrArg (l.getD i 0 ^^^ ·) this
  simp only [xor_self_back, Nat.xor_self] at h2
  exact h0 h2
theorem below_drewN {B : Nat} {a w : World} (h : Below B a w) (n : Nat) : Below B a (w.drewN n) := ⟨h.os, h.tape, h.output, h.size, h.block⟩
theorem crc24r (x : Int) (s r : Nat) (hx : x = (s : Nat)) (hs : s < 4294967296) (a : Option Addr) (len cap : Nat) (l : List Nat) (hr : crcOf s l = r) (w : World) (h : ByteRow w a len l) :
    Calls Try.prog 24 #[.int .u32 x, .slice a len cap] w fun e w' => e = .returned (.int .u32 (r : Nat)) ∧ w = w' := by
  subst hx; subst hr; exact crc24 s hs a len cap l w h

set_option maxHeartbeats 1000000 in
theorem walk7 (a0 a1 : Option Addr) (n0 c0 n1 c1 : Nat) (A B : List Nat) (at_ : Int) (z : Nat) (w : World) (hA : BIn w a0 n0 c0 A) (hB : BIn w a1 n1 c1 B) (hsum : n0 + n1 ≤ 140737488355328) (hz : z < 256) (hat : -9223372036854775808 ≤ at_) (hat' : at_ ≤ 9223372036854775807) :
    Calls Try.prog 7 #[.agg #[.slice a0 n0 c0, .slice a1 n1 c1, .int .i64 at_, .int .u8 (z : Nat)]] w fun e w' => e = .returned (.bool true) ∧ Below w.heap.size w w' := by
  have HA := Lib.hid hA
  have HB := Lib.hid hB
  have HLA := Lib.hid hA.1.1
  have HLB := Lib.hid hB.1.1
  have hAB : ∀ x ∈ A ++ B, x < 256 := fun x hx => by
    rcases List.mem_append.1 hx with h | h
    · exact hA.1.2.2.1 x h
    · exact hB.1.2.2.1 x h
  have HAB := Lib.hid hAB
  obtain ⟨W0, hW0⟩ : ∃ r, crcOf 0 (A ++ B) = r := ⟨_, rfl⟩
  obtain ⟨r1, hr1⟩ : ∃ r, crcOf 0 A = r := ⟨_, rfl⟩
  have hr1l : r1 < 4294967296 := by rw [← hr1]; exact crcOf_lt (by decide) A hA.1.2.2.1
  have hr2 : crcOf r1 B = W0 := by rw [← hr1, crcOf_append, hW0]
  have HW0 := Lib.hid hW0
  have HR1 := Lib.hid hr1
  have HR2 := Lib.hid hr2
  clear hA hB hAB hW0 hr1 hr2
  have kc := fun (w : World) (C : Array Value) (n c : Nat) => Lib.run_convert_bytes_const (P := Try.prog) w 22 5 C n c Try.underlying22 Try.underlying5
  go_enter Try.func7, Try.ntmps7
  go_wp2_with fail
  go_quiet (fail)
  have hb1 : Below w.heap.size w ((w.alloc (.cells #[.slice a0 n0 c0, .slice a1 n1 c1, .int .i64 at_, .int .u8 (z : Nat)] 45)).drewN nq) := below_drewN ((Below.refl _ _).alloc (Nat.le_refl _) _) nq
  generalize (w.alloc (.cells #[.slice a0 n0 c0, .slice a1 n1 c1, .int .i64 at_, .int .u8 (z : Nat)] 45)).drewN nq = w1 at *
  have HA1 := Lib.hid (HA.out.below hb1)
  have HB1 := Lib.hid (HB.out.below hb1)
  go_wp2_with (at_builtin; refine wpList_append_bytes _ rfl (.tmp 17) (.tmp 18) rfl w1.heap.size _ 0 [] rfl (zero_row w1) a0 n0 c0 A rfl (HA1.out.below ((Below.refl _ _).alloc (Nat.le_refl _) _)) (by omega) (by simp) ?_)
  intro v2 w2 hown2 hg2
  have hb2 : Below w1.heap.size w1 w2 := ((Below.refl _ _).alloc (Nat.le_refl _) _).grown hg2 (by simp) (by simp [Value.ownBlock])
  go_wp2_with (at_builtin; refine wpList_append_bytes _ rfl (.tmp 19) (.tmp 20) rfl w1.heap.size _ _ _ rfl hown2 a1 n1 c1 B rfl (HB1.out.below hb2) (by omega) (by have := hb2.size; omega) ?_)
  intro v3 w3 hown3 hg3
  have hb3 : Below w1.heap.size w1 w3 := hb2.grown hg3 hb2.size (fun k hk => (hown2.lt k hk).1)
  clear hown2 hg2 hg3
  obtain ⟨N, hN⟩ : ∃ N, N = n0 + n1 := ⟨_, rfl⟩
  obtain ⟨L, hL⟩ : ∃ L, L = A ++ B := ⟨_, rfl⟩
  rw [← hN] at hown3 hsum
  rw [← hL] at hown3
  rw [← hL] at HW0 HAB
  have HN := Lib.hid hN
  clear hN hL
  have HO := Lib.hid hown3
  obtain ⟨a3, c3, rfl, hin3, hlenL⟩ := own_in hown3 HAB.out hsum
  have HLL := Lib.hid hlenL
  clear hlenL hown3
  have H3 := Lib.hid hin3
  have HA3 := Lib.hid (HA1.out.below hb3)
  have HB3 := Lib.hid (HB1.out.below hb3)
  clear hin3
  go_wp2_with fail
  refine (crc24r 0 0 W0 rfl (by decide) a3 _ c3 L HW0.out w3 H3.out.1).mono ?_
  rintro e w' ⟨rfl, rfl⟩
  go_wp2_with fail
  refine (crc24r 0 0 r1 rfl (by decide) a0 _ c0 A HR1.out w3 HA3.out.1).mono ?_
  rintro e w' ⟨rfl, rfl⟩
  go_wp2_with fail
  refine (crc24r r1 r1 W0 rfl hr1l a1 _ c1 B HR2.out w3 HB3.out.1).mono ?_
  rintro e w' ⟨rfl, rfl⟩
  go_wp2_with fail
  refine (octetsSums.crc24i 0 0 rfl (by decide) _ _ _ _ _ (octetsSums.nine w3)).mono ?_
  rintro e w' ⟨rfl, rfl⟩
  rw [crc_digits]
  have hb4 : Below w3.heap.size w3 (w3.alloc octetsSums.nineCells) := (Below.refl _ _).alloc (Nat.le_refl _) _
  generalize w3.alloc octetsSums.nineCells = w4 at *
  have s1 := hb1.size
  have s3 := hb3.size
  have s4 := hb4.size
  have hBW : Below w.heap.size w w4 := (hb1.trans (hb3.mono (by omega))).trans (hb4.mono (by omega))
  have HO4 := Lib.hid (own_below HO.out hb4)
  by_cases hN0 : N = 0
  · have d1 : ((N : Int) == 0) = true := by rw [beq_iff_eq]; omega
    go_wp2_with fail
    go_ret
    exact ⟨rfl, hBW⟩
  have d1 : ((N : Int) == 0) = false := by rw [beq_eq_false_iff_ne]; omega
  by_cases hz0 : z = 0
  · have d2 : ((z : Int) == 0) = true := by rw [beq_iff_eq]; omega
    go_wp2_with fail
    go_ret
    exact ⟨rfl, hBW⟩
  have d2 : ((z : Int) == 0) = false := by rw [beq_eq_false_iff_ne]; omega
  obtain ⟨g, rfl⟩ : ∃ g, a3 = some ⟨g, 0, none⟩ := by
    rcases HO4.out.2 with ⟨h, h2⟩ | ⟨g, cap, cur, h, _⟩
    · exact absurd h2 hN0
    · injection h with h; exact ⟨g, h⟩
  by_cases hneg : at_ < 0
  · obtain ⟨i, hi⟩ : ∃ i : Nat, i = (-(at_ + 1)).toNat % N := ⟨_, rfl⟩
    have hiN : i < N := by rw [hi]; exact Nat.mod_lt _ (by omega)
    have r1 : (-(at_ + 1)) % (N : Int) = (i : Int) := by rw [hi, Int.natCast_emod, Int.toNat_of_nonneg (by omega)]
    have r2 : (-(at_ + 1)).tmod (N : Int) = (i : Int) := by rw [Int.tmod_eq_emod_of_nonneg (by omega)]; exact r1
    have hiI : (i : Int) < (N : Int) := by omega
    have hcell := (own_cells HO4.out).2 i hiN
    rw [Nat.zero_add] at hcell
    have hfr := HO4.out.frozenAt i
    have hx := getD_lt HAB.out i
    have hxor := u8_xor_nat (L.getD i 0) z hx hz
    obtain ⟨R, hR⟩ : ∃ R, crcOf 0 (L.set i (L.getD i 0 ^^^ z)) = R := ⟨_, rfl⟩
    have hne : R ≠ W0 := by rw [← hR, ← HW0.out]; exact crc_set L i z HAB.out (by have := HLL.out; omega) hz hz0
    have hneI : ((R : Int) != (W0 : Int)) = true := by rw [bne_iff_ne]; omega
    have HR := Lib.hid hR
    have HST := Lib.hid (HO4.out.stored i (.int .u8 ((L.getD i 0 ^^^ z : Nat) : Int))).1
    have HYL := Lib.hid (Nat.xor_lt_two_pow (n := 8) hx hz)
    generalize L.getD i 0 = x at *
    generalize x ^^^ z = y at *
    clear hi hR hne
    go_wp2_with fail
    go_region
    have hbr : ByteRow (w4.setCell ⟨g, i, none⟩ (.int .u8 (y : Nat))).drew (some ⟨g, 0, none⟩) N (L.set i y) := by
      have h := HST.out
      have e : (bytesV L).set i (.int .u8 (y : Nat)) = bytesV (L.set i y) := by simp [bytesV, List.map_set]
      rw [e] at h
      obtain ⟨a, c, hv, hin, _⟩ := own_in h (fun v hv => by
        rcases List.mem_or_eq_of_mem_set hv with h1 | h1
        · exact HAB.out v h1
        · rw [h1]; exact HYL.out) hsum
      injection hv with hv
      subst hv
      exact hin.1
    have hbg : Below w.heap.size w (w4.setCell ⟨g, i, none⟩ (.int .u8 (y : Nat))).drew := (hBW.setCell (p := ⟨g, i, none⟩) (by have := HO4.out.lt g rfl; show _ ≤ g; omega) _).drew
    go_wp2_with fail
    refine (crc24r 0 0 R rfl (by decide) _ _ c3 (L.set i y) HR.out _ hbr).mono ?_
    rintro e w' ⟨rfl, rfl⟩
    go_wp2_with fail
    go_ret
    exact ⟨rfl, hbg⟩
  · obtain ⟨i, hi⟩ : ∃ i : Nat, i = (at_).toNat % N := ⟨_, rfl⟩
    have hiN : i < N := by rw [hi]; exact Nat.mod_lt _ (by omega)
    have r1 : (at_) % (N : Int) = (i : Int) := by rw [hi, Int.natCast_emod, Int.toNat_of_nonneg (by omega)]
    have r2 : (at_).tmod (N : Int) = (i : Int) := by rw [Int.tmod_eq_emod_of_nonneg (by omega)]; exact r1
    have hiI : (i : Int) < (N : Int) := by omega
    have hcell := (own_cells HO4.out).2 i hiN
    rw [Nat.zero_add] at hcell
    have hfr := HO4.out.frozenAt i
    have hx := getD_lt HAB.out i
    have hxor := u8_xor_nat (L.getD i 0) z hx hz
    obtain ⟨R, hR⟩ : ∃ R, crcOf 0 (L.set i (L.getD i 0 ^^^ z)) = R := ⟨_, rfl⟩
    have hne : R ≠ W0 := by rw [← hR, ← HW0.out]; exact crc_set L i z HAB.out (by have := HLL.out; omega) hz hz0
    have hneI : ((R : Int) != (W0 : Int)) = true := by rw [bne_iff_ne]; omega
    have HR := Lib.hid hR
    have HST := Lib.hid (HO4.out.stored i (.int .u8 ((L.getD i 0 ^^^ z : Nat) : Int))).1
    have HYL := Lib.hid (Nat.xor_lt_two_pow (n := 8) hx hz)
    generalize L.getD i 0 = x at *
    generalize x ^^^ z = y at *
    clear hi hR hne
    go_wp2_with fail
    go_region
    have hbr : ByteRow (w4.setCell ⟨g, i, none⟩ (.int .u8 (y : Nat))).drew (some ⟨g, 0, none⟩) N (L.set i y) := by
      have h := HST.out
      have e : (bytesV L).set i (.int .u8 (y : Nat)) = bytesV (L.set i y) := by simp [bytesV, List.map_set]
      rw [e] at h
      obtain ⟨a, c, hv, hin, _⟩ := own_in h (fun v hv => by
        rcases List.mem_or_eq_of_mem_set hv with h1 | h1
        · exact HAB.out v h1
        · rw [h1]; exact HYL.out) hsum
      injection hv with hv
      subst hv
      exact hin.1
    have hbg : Below w.heap.size w (w4.setCell ⟨g, i, none⟩ (.int .u8 (y : Nat))).drew := (hBW.setCell (p := ⟨g, i, none⟩) (by have := HO4.out.lt g rfl; show _ ≤ g; omega) _).drew
    go_wp2_with fail
    refine (crc24r 0 0 R rfl (by decide) _ _ c3 (L.set i y) HR.out _ hbr).mono ?_
    rintro e w' ⟨rfl, rfl⟩
    go_wp2_with fail
    go_ret
    exact ⟨rfl, hbg⟩

/-! ### The row's step -/
theorem cells45 : Try.prog.cellsOf 45 = 4 := by kernel_rfl
theorem bulk_one {H : Type} (d : DataW H) : 1 ≤ Rows.uptoBulk d := by
  cases d with
  | lit l => cases l <;> simp [Rows.uptoBulk]
  | nil => simp [Rows.uptoBulk]
  | ptr d => simp [Rows.uptoBulk]
  | slice elems spare => simp [Rows.uptoBulk]
  | agg parts => simp [Rows.uptoBulk]
  | iface t d => simp [Rows.uptoBulk]
  | map entries => simp [Rows.uptoBulk]
  | held h => simp [Rows.uptoBulk]
theorem bulk_length {H : Type} (l : List (DataW H)) : l.length ≤ Rows.uptoBulkAll l := by
  induction l with
  | nil => simp [Rows.uptoBulkAll]
  | cons x r ih => have := bulk_one x; simp only [Rows.uptoBulkAll, List.length_cons]; omega

theorem bin_bulk {H : Type} {enc : TypeId × Value → H} {W : World} {v : Value} {fuel : Nat} {x : DataW H × List MemPlace}
    (h : DataW.trod enc Try.prog W 0 (fun _ => true) true fuel 22 [v] = some x) (hr : Rows.uptoBulk x.1 ≤ 1048576) :
    ∃ a n c l, v = .slice a n c ∧ BIn W a n c l ∧ n ≤ Rows.uptoBulk x.1 := by
  rcases open_ints Try.underlying22 Try.underlying5 (by kernel_rfl) h with ⟨hcs, _⟩ | ⟨y, n, c, zs, hcs, _, hl, hm, hz, hx, hcell, hwz⟩
  · simp only [List.cons.injEq, and_true] at hcs
    subst hcs
    exact ⟨none, 0, 0, [], rfl, ⟨⟨rfl, Nat.zero_le _, by simp, .inl rfl⟩, Nat.le_refl _, Nat.zero_le _, by omega, fun _ => rfl⟩, by omega⟩
  · simp only [List.cons.injEq, and_true] at hcs
    subst hcs
    obtain ⟨l, hrow⟩ := byteRow_in h
    simp only [if_true] at hz
    have hb : n ≤ Rows.uptoBulk x.1 := by
      rw [hx]
      simp only [Rows.uptoBulk]
      have h1 := bulk_length (lits (H := H) .u8 (zs.take n))
      have h2 : (lits (H := H) .u8 (zs.take n)).length = n := by simp [lits]; omega
      omega
    exact ⟨some y, n, c, l, rfl, ⟨hrow, hl, hm, by omega, fun h => by cases h⟩, hb⟩

set_option maxRecDepth 100000 in
theorem lifted (os : Os) (started : os.Started) (H : Type) (enc : TypeId × Value → H) (F : Stop.Interp) :
    ReturnsInHanded {} Try.checked os 7 .any ((Rows.OpenSpec.upto Rows.octetsPartsSpec).pre6 enc Try.prog Try.f7 Rows.octetsPartsUptoRow.domain false) (((Rows.OpenSpec.upto Rows.octetsPartsSpec).at F).post enc Try.prog Try.f7 false true false false) := by
  refine returnsInHanded_of_cond (C := Try.checked) (s := Rows.OpenSpec.upto Rows.octetsPartsSpec) (k := Rows.uptoSmall) rfl own started (by kernel_rfl) Try.func7
    (OpenSpec.witness (enc := enc) (C := Try.checked) (s := Rows.OpenSpec.upto Rows.octetsPartsSpec) (k := Rows.uptoSmall) rfl false ⟨#[], #[.agg #[.slice none 0 0, .slice none 0 0, .int .i64 0, .int .u8 0]], []⟩ 8 (by kernel_rfl) (by kernel_rfl) (by kernel_rfl)
      (x := ([.agg [.nil, .nil, .lit (.int .i64 0), .lit (.int .u8 0)]], [], [])) (by kernel_rfl) rfl (by kernel_rfl)) ?_
  intro W base args ds gs before hval0 hW _ hk _
  have hval : ∀ (j : Nat) t v, Try.f7.params[j]? = some t → args[j]? = some v → Value.okWide Try.prog W .any base t v := hval0
  have hW' := hW
  obtain ⟨p, q, hA0, hV, rfl, hfz, hnd⟩ := hW
  have hA : DataW.TrodAll enc Try.prog W 0 (fun _ => true) true Try.f7.params.toList args.toList ds p := hA0
  rw [Try.params7] at hA hval
  obtain ⟨v0, vs0, d0, ds0, p0, q0, hargs, rfl, rfl, h0, r0⟩ := trodAll_cons hA
  obtain ⟨rfl, rfl, rfl⟩ := trodAll_nil r0
  obtain rfl : args = #[v0] := by cases args; simp_all
  obtain ⟨rfl, rfl⟩ := trodVars_none hV
  have k0 := h0
  have lt0 : ∀ x ∈ p0, x.block < W.heap.size := by obtain ⟨m, hm⟩ := k0; exact DataW.trod_lt m _ _ _ hm
  obtain ⟨c0, c1, c2, c3, y0, y1, y2, y3, m, rfl, rfl, rfl, hy0, hy1, hy2, hy3⟩ := open_agg4 Try.underlying45 (by kernel_rfl) cells45 (hval 0 45 v0 rfl rfl) h0
  have hbk : Rows.uptoBulk y0.1 + Rows.uptoBulk y1.1 ≤ 1048576 := by
    have h := of_decide_eq_true hk
    simp only [List.append_nil, Rows.uptoBulkAll, Rows.uptoBulk] at h
    omega
  obtain ⟨a0, n0, cc0, A, rfl, hinA, hn0⟩ := bin_bulk hy0 (by omega)
  obtain ⟨a1, n1, cc1, B, rfl, hinB, hn1⟩ := bin_bulk hy1 (by omega)
  obtain ⟨f, e2, rfl, wf⟩ := DataW.trod_int Try.underlying3 hy2
  obtain ⟨z, e3, rfl, wz⟩ := DataW.trod_int Try.underlying5 hy3
  simp at e2 e3
  subst e2 e3
  have bf := bounds_i64 wf
  have bz := bounds_u8 wz
  obtain ⟨z, rfl⟩ := Int.eq_ofNat_of_zero_le bz.1
  clear hA0 hval0
  refine (walk7 a0 a1 n0 cc0 n1 cc1 A B f z W hinA hinB (by omega) (by omega) (by omega) (by omega)).mono fun e W' ⟨he, bel⟩ => ?_
  subst he
  exact ⟨_, rfl, _, _, _, [], _, [], hW', trodAll_mk1 (shut_bool Try.underlying4 _), (trodAll_cons_mk (Below.trod laidOut (by kernel_rfl) (of_decide_eq_true (by kernel_rfl)) k0 bel lt0) trodAll_mk0), rfl, bel.frame _, fun h => by cases h⟩

theorem over : Rows.octetsPartsUptoRow.holds Try.pinned (Rows.OpenSpec.upto Rows.octetsPartsSpec) :=
  OpenClaim.holds_of_cond 7 Try.f7 rfl rfl rfl rfl rfl rfl rfl ⟨rfl, rfl, rfl, rfl, rfl⟩ rfl rfl rfl rfl rfl (by kernel_rfl) Try.func7 (by kernel_rfl)
    (of_decide_eq_true (by kernel_rfl)) (by unfold Func.isWrapper; first | (rw [if_pos (by decide +kernel)]; kernel_rfl) | (rw [if_neg (by decide +kernel)]; exact ⟨rfl, rfl⟩))
    (fun os started H enc _ F => lifted os started H enc F)

/-- The statement, in its second form. -/
theorem proved : Rows.OctetsPartsUptoSaid := over
#print axioms proved
end Go.Proofs.Ytgoackkmjfgneaa.octetsParts
