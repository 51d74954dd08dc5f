/- OctetsTexts answers true for every list of bytes and every text: Hex and FromHex give the document's answers, what was told is read again, and what was read is told as the same text; nothing that was in memory is changed. No condition. -/
import Derived.Test.YtgoackkmjfgneaaFrameB
import Derived.Test.YtgoackkmjfgneaaUnhexR
import Derived.Test.YtgoackkmjfgneaaHexR
import Derived.Test.YtgoackkmjfgneaaAlive
namespace Go.Proofs.Ytgoackkmjfgneaa.octetsTexts
open Go.ChangeShapes Go.WideShapes Go.ChangeAt Go.RowKit
open Go.ChangeMaps (open_string shut_string)
set_option linter.unusedVariables false

/-- what a text stands for -/
def resOf (s : ByteArray) : Option (List Nat) := if s.size % 2 = 1 then none else unhexTo (strL s) (s.size / 2)
theorem unhex31 (s : ByteArray) (w : World) (hs : s.size ≤ 281474976710656) : Calls Try.prog 31 #[.string s] w (UnhexIs (resOf s) (s.size / 2) w) := by
  rcases Nat.mod_two_eq_zero_or_one s.size with h | h
  · have e : resOf s = unhexTo (strL s) (s.size / 2) := if_neg (by omega)
    rw [e]
    exact unhex31_even s (s.size / 2) w (by omega) (by omega)
  · have e : resOf s = none := if_pos h
    rw [e]
    exact unhex31_odd s w hs h
theorem unhex32 (s : ByteArray) (w : World) (hs : s.size ≤ 140737488355328) : Calls Try.prog 32 #[.string s] w (UnhexIs (resOf s) (s.size / 2) w) :=
  unhex32_any s (s.size / 2) (s.size % 2) (resOf s) w (by omega) (by omega) (by omega) rfl
theorem back31 (l : List Nat) (n : Nat) (w : World) (hl : ∀ x ∈ l, x < 256) (hn : l.length = n) (hb : n ≤ 140737488355328) : Calls Try.prog 31 #[.string (strV (hexL l))] w (ListIs n l w) := by
  have hsz : (strV (hexL l)).size = 2 * n := by
    have := strOfNums_size ((hexL l).map Nat.cast)
    unfold strV; rw [this, List.length_map, hexL_length, hn]
  have h := unhex31_even (strV (hexL l)) n w hsz hb
  rw [strL_strV (hexL_lt hl), ← hn, unhex_hex hl, hn] at h
  exact h
theorem res_str {s : ByteArray} {L : List Nat} (h : resOf s = some L) : strV (hexL L) = s ∧ L.length = s.size / 2 ∧ ∀ x ∈ L, x < 256 := by
  unfold resOf at h
  split at h
  · cases h
  · have hl := unhexTo_length h
    have hh := hex_unhexTo (by rw [strL_length]; omega) h
    rw [hh, List.take_of_length_le (by rw [strL_length]; omega), strV_strL]
    exact ⟨rfl, hl.1, hl.2⟩

set_option maxHeartbeats 1000000 in
theorem walk9_no (a0 : Option Addr) (n c : Nat) (l : List Nat) (s : ByteArray) (w : World) (hb : BIn w a0 n c l) (hn : n ≤ 140737488351232) (hs : s.size ≤ 140737488351232) (hr : resOf s = none) :
    Calls Try.prog 9 #[.slice a0 n c, .string s] w fun e w' => e = .returned (.bool true) ∧ Below w.heap.size w w' := by
  have HB := Lib.hid hb
  have HL := Lib.hid hb.1.1
  have HLT := Lib.hid hb.1.2.2.1
  have H31 := Lib.hid (fun w => unhex31 s w (by omega))
  have H32 := Lib.hid (fun w => unhex32 s w (by omega))
  have HSS := Lib.hid (rfl : strV (hexL l) = strV (hexL l))
  rw [hr] at H31 H32
  clear hb hr
  obtain ⟨S, hS⟩ : ∃ S, S = strV (hexL l) := ⟨_, rfl⟩
  have HX30 := Lib.hid (fun w (h : BIn w a0 n c l) => hex30 a0 n c l w h.1 hn)
  have HX33 := Lib.hid (fun w (h : BIn w a0 n c l) => hex33 a0 n c l w h.1 hn)
  have HBK := Lib.hid (fun w => back31 l n w HLT.out HL.out (by omega))
  rw [← hS] at HX30 HX33 HBK
  clear hS HSS
  go_enter Try.func9, Try.ntmps9
  go_wp2_with fail
  refine (HX30.out w HB.out).mono ?_
  rintro e w1 ⟨rfl, hb1⟩
  go_wp2_with fail
  refine (HBK.out w1).mono ?_
  rintro e w2 ⟨a1, c1, rfl, hin1, hb2⟩
  have HI1 := Lib.hid hin1
  clear hin1
  go_wp2_with fail
  refine (H31.out w2).mono ?_
  rintro e w3 ⟨rfl, hb3⟩
  go_wp2_with fail
  refine (H32.out w3).mono ?_
  rintro e w4 ⟨rfl, hb4⟩
  go_wp2_with fail
  have s1 := hb1.size
  have s2 := hb2.size
  have s3 := hb3.size
  have s4 := hb4.size
  have hB2 : Below w.heap.size w w2 := hb1.trans (hb2.mono s1)
  have hB4 : Below w.heap.size w w4 := (hB2.trans (hb3.mono (by omega))).trans (hb4.mono (by omega))
  have HB4 := Lib.hid (HB.out.below hB4)
  have HI4 := Lib.hid ((HI1.out.below hb3).below hb4)
  refine (same15 a1 a0 n c1 c l w4 HI4.out.1 HB4.out.1).mono ?_
  rintro e w5 ⟨rfl, hb5⟩
  go_wp2_with fail
  refine (same15 none none 0 0 0 [] w5 ⟨rfl, Nat.zero_le _, by simp, .inl rfl⟩ ⟨rfl, Nat.zero_le _, by simp, .inl rfl⟩).mono ?_
  rintro e w6 ⟨rfl, hb6⟩
  go_wp2_with fail
  refine (alive17 w6).mono ?_
  rintro e w7 ⟨rfl, hb7⟩
  go_wp2_with fail
  have s5 := hb5.size
  have s6 := hb6.size
  have s7 := hb7.size
  have hB7 : Below w.heap.size w w7 := ((hB4.trans (hb5.mono (by omega))).trans (hb6.mono (by omega))).trans (hb7.mono (by omega))
  refine (HX33.out w7 (HB.out.below hB7)).mono ?_
  rintro e w8 ⟨rfl, hb8⟩
  go_wp2_with fail
  go_ret
  exact ⟨rfl, hB7.trans (hb8.mono (by omega))⟩
set_option maxHeartbeats 1000000 in
theorem walk9_yes (a0 : Option Addr) (n c : Nat) (l : List Nat) (s : ByteArray) (w : World) (hb : BIn w a0 n c l) (hn : n ≤ 140737488351232) (hs : s.size ≤ 140737488351232) (L : List Nat) (hr : resOf s = some L) :
    Calls Try.prog 9 #[.slice a0 n c, .string s] w fun e w' => e = .returned (.bool true) ∧ Below w.heap.size w w' := by
  have HB := Lib.hid hb
  have HL := Lib.hid hb.1.1
  have HLT := Lib.hid hb.1.2.2.1
  have H31 := Lib.hid (fun w => unhex31 s w (by omega))
  have H32 := Lib.hid (fun w => unhex32 s w (by omega))
  have HSS := Lib.hid (rfl : strV (hexL l) = strV (hexL l))
  have hrs := res_str hr
  have HRS := Lib.hid hrs
  rw [hr] at H31 H32
  obtain ⟨m, hm⟩ : ∃ m, m = s.size / 2 := ⟨_, rfl⟩
  have hm2 : m ≤ 70368744177664 := by omega
  rw [← hm] at H31 H32
  clear hb hr hrs hm
  obtain ⟨S, hS⟩ : ∃ S, S = strV (hexL l) := ⟨_, rfl⟩
  have HX30 := Lib.hid (fun w (h : BIn w a0 n c l) => hex30 a0 n c l w h.1 hn)
  have HX33 := Lib.hid (fun w (h : BIn w a0 n c l) => hex33 a0 n c l w h.1 hn)
  have HBK := Lib.hid (fun w => back31 l n w HLT.out HL.out (by omega))
  rw [← hS] at HX30 HX33 HBK
  clear hS HSS
  go_enter Try.func9, Try.ntmps9
  go_wp2_with fail
  refine (HX30.out w HB.out).mono ?_
  rintro e w1 ⟨rfl, hb1⟩
  go_wp2_with fail
  refine (HBK.out w1).mono ?_
  rintro e w2 ⟨a1, c1, rfl, hin1, hb2⟩
  have HI1 := Lib.hid hin1
  clear hin1
  go_wp2_with fail
  refine (H31.out w2).mono ?_
  rintro e w3 ⟨a2, c2, rfl, hin2, hb3⟩
  have HI2 := Lib.hid hin2
  clear hin2
  go_wp2_with fail
  refine (H32.out w3).mono ?_
  rintro e w4 ⟨a3, c3, rfl, hin3, hb4⟩
  have HI3 := Lib.hid hin3
  have HI24 := Lib.hid (HI2.out.below hb4)
  clear hin3
  go_wp2_with fail
  have s1 := hb1.size
  have s2 := hb2.size
  have s3 := hb3.size
  have s4 := hb4.size
  have hB2 : Below w.heap.size w w2 := hb1.trans (hb2.mono s1)
  have hB4 : Below w.heap.size w w4 := (hB2.trans (hb3.mono (by omega))).trans (hb4.mono (by omega))
  have HB4 := Lib.hid (HB.out.below hB4)
  have HI4 := Lib.hid ((HI1.out.below hb3).below hb4)
  refine (same15 a1 a0 n c1 c l w4 HI4.out.1 HB4.out.1).mono ?_
  rintro e w5 ⟨rfl, hb5⟩
  go_wp2_with fail
  have HI25 := Lib.hid (HI24.out.below hb5)
  have HI35 := Lib.hid (HI3.out.below hb5)
  refine (same15 a2 a3 m c2 c3 L w5 HI25.out.1 HI35.out.1).mono ?_
  rintro e w6 ⟨rfl, hb6⟩
  go_wp2_with fail
  refine (alive17 w6).mono ?_
  rintro e w7 ⟨rfl, hb7⟩
  go_wp2_with fail
  have s5 := hb5.size
  have s6 := hb6.size
  have s7 := hb7.size
  have hB7 : Below w.heap.size w w7 := ((hB4.trans (hb5.mono (by omega))).trans (hb6.mono (by omega))).trans (hb7.mono (by omega))
  refine (HX33.out w7 (HB.out.below hB7)).mono ?_
  rintro e w8 ⟨rfl, hb8⟩
  go_wp2_with fail
  have s8 := hb8.size
  have HI28 := Lib.hid (((HI25.out.below hb6).below hb7).below hb8)
  refine (hex30 a2 m c2 L w8 HI28.out.1 (by omega)).mono ?_
  rw [HRS.out.1]
  rintro e w9 ⟨rfl, hb9⟩
  go_wp2_with fail
  go_ret
  exact ⟨rfl, (hB7.trans (hb8.mono (by omega))).trans (hb9.mono (by omega))⟩

theorem walk (a0 : Option Addr) (n c : Nat) (l : List Nat) (s : ByteArray) (w : World) (hb : BIn w a0 n c l) (hn : n ≤ 140737488351232) (hs : s.size ≤ 140737488351232) :
    Calls Try.prog 9 #[.slice a0 n c, .string s] w fun e w' => e = .returned (.bool true) ∧ Below w.heap.size w w' := by
  cases h : resOf s with
  | none => exact walk9_no a0 n c l s w hb hn hs h
  | some L => exact walk9_yes a0 n c l s w hb hn hs L h

/-! ### The row's step -/
set_option maxRecDepth 100000 in
theorem lifted (os : Os) (started : os.Started) (H : Type) (enc : TypeId × Value → H) :
    ReturnsInHanded {} Try.checked os 9 .any (Rows.octetsTextsSpec.pre6 enc Try.prog Try.f9 Rows.octetsTextsRow.domain false) (Rows.octetsTextsSpec.post enc Try.prog Try.f9 false true false false) := by
  refine returnsInHanded_of_change_sized (C := Try.checked) own started (by kernel_rfl) Try.func9
    (ChangeSpec.witness6 (enc := enc) (C := Try.checked) false ⟨#[], #[.slice none 0 0, .string ByteArray.empty], []⟩ 8 (by kernel_rfl) (by kernel_rfl) (by kernel_rfl) (by kernel_rfl)) ?_
  intro W base args ds gs before hval0 hW hcnd hsz0 _
  have hsz : (DataW.weightsEach Try.prog (Try.f9.params.toList ++ Rows.octetsTextsSpec.plain.varTypes Try.prog) (ds ++ gs)).all (· ≤ reachBytes) = true := hsz0
  have hval : ∀ (j : Nat) t v, Try.f9.params[j]? = some t → args[j]? = some v → Value.okWide Try.prog W .any base t v := hval0
  have hW' := hW
  obtain ⟨p, q, hA0, hV, rfl, hfz, hnd⟩ := hW
  have hA : DataW.TrodAll enc Try.prog W 0 (fun _ => true) true Try.f9.params.toList args.toList ds p := hA0
  rw [Try.params9] at hA hval hsz
  obtain ⟨v0, vs0, d0, ds0, p0, q0, hargs, rfl, rfl, h0, r0⟩ := trodAll_cons hA
  obtain ⟨v1, vs1, d1, ds1, p1, q1, rfl, rfl, rfl, h1, r1⟩ := trodAll_cons r0
  obtain ⟨rfl, rfl, rfl⟩ := trodAll_nil r1
  obtain rfl : args = #[v0, v1] := by cases args; simp_all
  obtain ⟨rfl, rfl⟩ := trodVars_none hV
  obtain ⟨a0, len0, cap0, rfl⟩ := okWide_slice Try.underlying22 (hval 0 22 v0 rfl rfl)
  have k0 := h0
  have lt0 : ∀ x ∈ p0, x.block < W.heap.size := by obtain ⟨m, hm⟩ := k0; exact DataW.trod_lt m _ _ _ hm
  have hw : ∀ k ∈ DataW.weights Try.prog 22 d0, k ≤ reachBytes := by
    intro k hk
    have := List.all_eq_true.1 hsz k (DataW.weights_mem_each (j := 0) rfl rfl k hk)
    simpa using this
  obtain ⟨s, rfl, rfl, rfl, w1⟩ := open_string Try.underlying9 (hval 1 9 v1 rfl rfl) h1
  have hstr := sized_string hsz (j := 1) rfl rfl
  have hs : s.size ≤ 140737488351232 := by
    have e : s.data.toList.length = s.size := by simp
    rw [e] at hstr
    simpa [reachBytes] using hstr
  obtain ⟨fuel, hf⟩ := h0
  obtain ⟨a, n, c, l, hv, hin, hreach⟩ := bin_in (v := .slice a0 len0 cap0) (by simpa [Value.cells] using hf) hw
  injection hv with e1 e2 e3
  subst e1 e2 e3
  clear hA0 hval0
  refine (walk a0 len0 cap0 l s W hin hreach hs).mono fun e W' ⟨he, bel⟩ => ?_
  subst he
  exact ⟨_, rfl, _, _, _, [], _, [], hW', trodAll_mk1 (shut_bool Try.underlying4 _), (trodAll_cons_mk (Below.trod laidOut (by kernel_rfl) (of_decide_eq_true (by kernel_rfl)) k0 bel lt0) (trodAll_cons_mk (shut_string Try.underlying9 w1) trodAll_mk0)), rfl, bel.frame _, fun h => by cases h⟩

theorem over : Rows.octetsTextsRow.holds Try.pinned (OpenSpec.ofChange Rows.octetsTextsSpec) :=
  OpenClaim.holds_of_wide 9 Try.f9 rfl rfl rfl rfl rfl rfl rfl ⟨rfl, rfl, rfl, rfl, rfl⟩ rfl rfl rfl rfl rfl (by kernel_rfl) Try.func9 (by kernel_rfl)
    (of_decide_eq_true (by kernel_rfl)) (by unfold Func.isWrapper; first | (rw [if_pos (by decide +kernel)]; kernel_rfl) | (rw [if_neg (by decide +kernel)]; exact ⟨rfl, rfl⟩))
    (fun os started H enc _ => lifted os started H enc)

/-- The statement. -/
theorem proved : Rows.OctetsTextsSaid := over
#print axioms proved
end Go.Proofs.Ytgoackkmjfgneaa.octetsTexts
