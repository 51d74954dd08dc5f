/- The project's write. No condition. -/
import Derived.Test.YtbabpmncdphnjaaOl
import Derived.Test.YtbabpmncdphnjaaCt
import Derived.Maps.AppendAt
namespace Go.Proofs.Ytbabpmncdphnjaa
open Go.RowKit
set_option linter.unusedVariables false
set_option maxRecDepth 100000

theorem wpList_append_at {w : World} {ops : Array Oper} {rest : List Oper} {o : Oper} {a : Act} {Q : Exit → Act → World → Prop} (hgd : o.guard = none) (s x : Operand)
    (ho : o.op = .call { callee := .builtin .append, args := #[s, x], argTypes := #[22, 22] })
    (base : Nat) (v : Value) (n : Nat) (xs : List Nat) (hs : a.eval s = v) (hown : w.ownsRow base 5 1 v n (bytesV xs))
    (A : Option Addr) (m c : Nat) (l : List Nat) (hx : a.eval x = .slice A m c) (hr : BIn w A m c l) (hb : n + m ≤ 140737488355328) (hbase : base ≤ w.heap.size)
    (h : ∀ v' w', w'.ownsRow base 5 1 v' (n + m) (bytesV (xs ++ l)) → w.grownBy w' v.ownBlock → (∀ g, v'.ownBlock = some g → v.ownBlock = some g ∨ w.heap.size ≤ g) → wpList Try.prog ops Q rest (a.put o.dst v') w') : wpList Try.prog ops Q (o :: rest) a w := by
  obtain ⟨i0, hi, hz0, hz1, hz2⟩ := info_parts info5
  obtain ⟨⟨hl, hm, hlt, hrow⟩, hc1, hc2, _, hnil⟩ := hr
  have hone : ∀ u ∈ bytesV l, u.oneCell' = true := by
    intro u hu; obtain ⟨y, _, rfl⟩ := List.mem_map.1 hu; rfl
  rcases A with _ | ad
  · have := hnil rfl
    obtain rfl : m = 0 := by omega
    subst this
    obtain rfl : l = [] := List.eq_nil_of_length_eq_zero hl
    refine wpList_plain hgd fun K hK => ?_
    have hrun := run_append_owned_none (P := Try.prog) w base 22 o.type 5 i0 1 Try.underlying22 hi v n (bytesV xs) hown
    have h2 := h v w (by simpa using hown) ⟨rfl, rfl, rfl, Nat.le_refl _, fun _ _ _ => rfl⟩ (fun g hg => .inl hg)
    unfold Oper.wp
    simp [execOp, ho, resolve, invoke, builtin, hs, hx, hrun, Result.andThen]
    exact hK _ _ h2
  · refine wpList_append_own_at w hgd s x 22 ho base 5 i0 (.int .u8 0) 1 1 Try.underlying22 hi hz0 hz1 hz2 rfl (by decide) v n (bytesV xs) hs hown ad m c (bytesV l) hx (by simpa [bytesV] using hl) ?_ hone (by simp only [maxLen]; omega) (by omega) hbase ?_
    · intro j u hu
      have hj : j < l.length := by
        rcases Nat.lt_or_ge j l.length with h | h
        · exact h
        · rw [List.getElem?_eq_none (by simpa [bytesV] using h)] at hu; cases hu
      obtain ⟨b, off, hA, hc⟩ := hrow.resolve_left (by omega)
      injection hA with hA; subst hA
      rw [Addr.add_mid, hc j (by omega), ← hu]
      simp [bytesV, List.getD_eq_getElem?_getD, List.getElem?_eq_getElem hj]
    · intro v' w' h1 h2 _ h4
      refine h v' w' (by simpa [bytesV] using h1) h2 (fun g hg => ?_)
      rcases h4 with h4 | h4
      · exact .inl (h4 ▸ hg)
      · rw [h4] at hg; injection hg with hg; exact .inr (by omega)

theorem grown_step {w wa wb : World} {r r' : Option Nat} (h : w.grownBy wa r) (k : wa.grownBy wb r') (hr : ∀ g, r' = some g → r = some g ∨ w.heap.size ≤ g) : w.grownBy wb r :=
  ⟨k.os.trans h.os, k.tape.trans h.tape, k.output.trans h.output, Nat.le_trans h.size k.size, fun i hi hn => (k.block i (Nat.lt_of_lt_of_le hi h.size) (fun e => by
    rcases hr i e.symm with h1 | h1
    · exact hn h1.symm
    · omega)).trans (h.block i hi hn)⟩
theorem kept_apart {w w' : World} {B e size n : Nat} {v : Value} {xs : List Value} {row : Option Nat} (h : w.ownsRow B e size v n xs) (hg : w.grownBy w' row) (hne : ∀ g, v.ownBlock = some g → row ≠ some g) : w'.ownsRow B e size v n xs :=
  own_keep h fun g hgv => hg.block g (own_ob_lt h g hgv).2 (fun e => hne g (by simpa [ob, Option.mem_toList] using hgv) e.symm)
theorem bin_one (w : World) (t : Nat) (ht : t < 256) : BIn (w.alloc (.cells #[.int .u8 (t : Nat)] 5)) (some ⟨w.heap.size, 0, none⟩) 1 1 [t] := by
  have h := World.ownsRow_lit (base := 0) (e := 5) (size := 1) w (bytesV [t]).toArray 1 (Nat.zero_le _) (by simp [maxLen]) (by simp [bytesV])
  obtain ⟨a, c, h1, h2, _⟩ := own_in (l := [t]) h (by simpa using ht) (by omega)
  injection h1 with h1 h3 h4
  subst h1 h4
  exact h2
theorem row_enc8 {w : World} : ∀ {T : Tr} {b o : Nat}, Row w T b o → ∀ z ∈ T.enc, z < 256
  | .nil, _, _, _ => by simp [Tr.enc]
  | .node t bs k r, b, o, ⟨h1, h2, ⟨a, c, h3, h4⟩, ⟨a', c', h5, h6, h7⟩, h8⟩ => by
    intro z hz
    rw [enc_node] at hz
    simp only [encI, List.mem_append, List.mem_cons] at hz
    rcases hz with ((rfl | hz) | hz | hz) | hz
    · exact h1
    · exact lenB_lt _ z hz
    · exact h4.1.2.2.1 z hz
    · rcases h7 with h7 | ⟨b', o', _, h7⟩
      · rw [Tr.len_zero h7] at hz; simp [Tr.enc] at hz
      · exact row_enc8 h7 z hz
    · exact row_enc8 h8 z hz
theorem kin_enc8 {w : World} {a : Option Addr} {c : Nat} {k : Tr} (h : KIn w a c k) : ∀ z ∈ k.enc, z < 256 := by
  rcases h.2 with h2 | ⟨b, o, _, h2⟩
  · rw [Tr.len_zero h2]; simp [Tr.enc]
  · exact row_enc8 h2
theorem item_enc8 {w : World} {t : Nat} {a : Option Addr} {c : Nat} {a' : Option Addr} {c' : Nat} {b : List Nat} {k : Tr} (h : ItIn w t a c a' c' b k) : ∀ z ∈ encI t b k, z < 256 := by
  intro z hz
  simp only [encI, List.mem_append, List.mem_cons] at hz
  rcases hz with (rfl | hz) | hz | hz
  · exact h.1
  · exact lenB_lt _ z hz
  · exact h.2.1.1.2.2.1 z hz
  · exact kin_enc8 h.2.2 z hz
/-- what write answers -/
def WrIs (B : Nat) (v : Value) (n : Nat) (xs : List Nat) (t : Nat) (b : List Nat) (k : Tr) (w : World) (e : Ending) (w' : World) : Prop :=
  ∃ v', e = .returned v' ∧ w'.ownsRow B 5 1 v' (n + (encI t b k).length) (bytesV (xs ++ encI t b k)) ∧ w.grownBy w' v.ownBlock ∧ (∀ g, v'.ownBlock = some g → v.ownBlock = some g ∨ w.heap.size ≤ g)

set_option maxRecDepth 100000 in
set_option maxHeartbeats 8000000 in
theorem write_any : ∀ (N : Nat) (k : Tr), k.sz < N → ∀ (W0 : World) (t : Nat) (b : List Nat) (a : Option Addr) (c : Nat) (a' : Option Addr) (c' : Nat), ItIn W0 t a c a' c' b k →
    ∀ (w : World), Below W0.heap.size W0 w → ∀ (v : Value) (n : Nat) (xs : List Nat), w.ownsRow W0.heap.size 5 1 v n (bytesV xs) → n + (encI t b k).length ≤ 1048576 → (encI t b k).length ≤ 65537 →
    Calls Try.prog 54 #[v, itV t a b.length c a' k.len c'] w (WrIs W0.heap.size v n xs t b k w) := by
  intro N
  induction N with
  | zero => intro k h; omega
  | succ N ih =>
    intro k hsz W0 t b a c a' c' hin0 w hW0 v n xs hown hbd hbd2
    have hin : ItIn w t a c a' c' b k := hin0.below hW0
    have HOWN := Lib.hid hown
    have hel := encI_length t b k
    have HEL := Lib.hid hel
    have HBD := Lib.hid hbd
    have HB2 := Lib.hid hbd2
    have HB := Lib.hid hin.2.1
    have HK := Lib.hid hin.2.2
    have ht := hin.1
    have IH := Lib.hid ih
    have HS := Lib.hid hsz
    have HW0 := Lib.hid hW0
    have hs0 := hW0.size
    have h0 := fun o => (Below.refl _ w).alloc (Nat.le_refl _) o
    obtain ⟨av, cv, rfl⟩ := own_slice hown
    have hkm : k.len ≤ 140737488355328 := hin.2.2.1.2.1
    have hWR := rangeAt_new w (.int .u8 (t : Nat)) (.slice a b.length c) (.slice a' k.len c') 25
    clear hin hin0 ih hsz hW0 hown hel hbd hbd2
    generalize hbn : b.length = bn at *
    generalize hkn : k.len = kn at *
    have HBN := Lib.hid hbn
    have HKN := Lib.hid hkn
    clear hbn hkn
    go_enter Try.func54, Try.ntmps54
    have H0 := Lib.hid (h0 (.cells #[.int .u8 (t : Nat), .slice a bn c, .slice a' kn c'] 25))
    have hs1 : (w.alloc (.cells #[.int .u8 (t : Nat), .slice a bn c, .slice a' kn c'] 25)).heap.size = w.heap.size + 1 := by simp
    have HS1 := Lib.hid hs1
    clear hs1
    generalize hW1 : w.alloc (.cells #[.int .u8 (t : Nat), .slice a bn c, .slice a' kn c'] 25) = W1 at *
    have HWR := Lib.hid hWR
    have k1 : W1.cell? ⟨w.heap.size, 0 + 1, none⟩ = some (.slice a bn c) := hWR 1 _ rfl
    have HB1 := Lib.hid (HB.out.below H0.out)
    clear hWR
    go_wp2_with (first | (at_builtin; refine wpList_append_at rfl (.tmp 8) (.tmp 10) rfl W1.heap.size (.slice none 0 0) 0 [] rfl (World.ownsRow_nil _ _ _ _) a bn c b rfl HB1.out (by have := HB1.out.2.2.2.1; omega) (Nat.le_refl _) ?_; intro hv W2 hown2 hgr2 hat2; have HO2 := Lib.hid hown2; have HG2 := Lib.hid (((Below.refl _ W1).grown hgr2 (Nat.le_refl _) (by intro x hx; cases hx))); have k2 := (HG2.out.cell (World.block_lt_of_cell? W1 _ (HWR.out 2 _ rfl))).trans (HWR.out 2 _ rfl); clear hown2 hgr2 hat2))
    clear hW1
    rw [Nat.zero_add, List.nil_append] at HO2
    go_loopw [5, 15] (fun h i wr => ∃ (A r : Tr) (j : Nat), k = A.app r ∧ A.len = j ∧ i = .int .i64 (j : Nat) ∧ wr.ownsRow W1.heap.size 5 1 h (bn + A.enc.length) (bytesV (b ++ A.enc)) ∧ Below W1.heap.size W1 wr) (fun _ i _ => kn - (intOf i).toNat)
    case atStart => exact ⟨.nil, k, 0, rfl, rfl, rfl, by simpa [Tr.enc] using HO2.out, HG2.out⟩
    case round =>
      obtain ⟨A, r, j, hA, hj, rfl, hown, hbel⟩ := hrel
      have hlen : j + r.len = kn := by rw [← HKN.out, hA, Tr.len_app, hj]
      have HA := Lib.hid hA
      have HJ := Lib.hid hj
      have HOH := Lib.hid hown
      have HBW := Lib.hid (H0.out.trans (hbel.mono H0.out.size))
      clear hA hj hown
      by_cases hjk : j < kn
      · have hji : (j : Int) < (kn : Int) := by omega
        obtain ⟨t1, b1, k1', r1, rfl⟩ := Tr.len_pos (T := r) (by omega)
        obtain ⟨b', o', rfl, hrow⟩ := HK.out.2.resolve_left (by have := HKN.out; omega)
        have hszk : k1'.sz < N := by
          have h1 := Tr.sz_app A (.node t1 b1 k1' r1)
          rw [← HA.out] at h1
          have h2 := HS.out
          simp only [Tr.sz] at h1; omega
        rw [HA.out] at hrow
        have hrow2 := (Row.append hrow).2
        rw [show o' + 3 * A.len = o' + j * 3 by rw [HJ.out]; omega] at hrow2
        obtain ⟨a1, cc1, a2, cc2, hra, hit, _⟩ := (Row.below H0.out hrow2).head
        have HR := Lib.hid (rangeAt_below hra hbel)
        have hel1 : k.enc.length = A.enc.length + ((encI t1 b1 k1').length + r1.enc.length) := by rw [HA.out, Tr.enc_app, enc_node]; simp
        have hel2 : bn + A.enc.length + (encI t1 b1 k1').length ≤ 1048576 := by have := HEL.out; have := HBD.out; omega
        have hbx : Below W1.heap.size W1 (wr.alloc (.cells #[.int .u8 (t1 : Nat), .slice a1 b1.length cc1, .slice a2 k1'.len cc2] 25)) := hbel.alloc hbel.size _
        have hoH := HOH.out
        have HC := Lib.hid (IH.out k1' hszk W1 t1 b1 a1 cc1 a2 cc2 hit _ hbx _ _ _ (hoH.alloc (.cells #[.int .u8 (t1 : Nat), .slice a1 b1.length cc1, .slice a2 k1'.len cc2] 25)) hel2 (by have := HEL.out; have := HB2.out; omega))
        have hbl : ∀ g, u5.ownBlock = some g → W1.heap.size ≤ g := fun g hg => (hoH.lt g hg).1
        have HBX := Lib.hid hbx
        have HNX := Lib.hid (show bn + A.enc.length + (encI t1 b1 k1').length = bn + (A.app (.node t1 b1 k1' .nil)).enc.length by rw [Tr.enc_app, enc_one, List.length_append]; omega)
        have HYX := Lib.hid (show b ++ A.enc ++ encI t1 b1 k1' = b ++ (A.app (.node t1 b1 k1' .nil)).enc by rw [Tr.enc_app, enc_one, List.append_assoc])
        clear hrow hrow2 hra hit hel1 hel2 hbx hoH
        go_wp2_with (first | (refine ldI rfl (.tmp 17) rfl b' (o' + j * 3) rfl _ _ _ HR.out ?_) | (go_at_call 54; (refine HC.out.mono ?_); rintro e w3 ⟨hv3, rfl, hown3, hgr3, hat3⟩))
        have hb4 : Below W1.heap.size W1 w3 := HBX.out.grown hgr3 HBX.out.size hbl
        rw [HNX.out, HYX.out] at hown3
        go_roundw
        case rel => exact ⟨A.app (.node t1 b1 k1' .nil), r1, j + 1, by rw [HA.out, Tr.app_assoc]; rfl, by rw [Tr.len_app, HJ.out]; rfl, by go_num, hown3, hb4⟩
        case measure => simp [intOf]; omega
      · have hr0 := Tr.len_zero (T := r) (by omega)
        have hji : ¬ (j : Int) < (kn : Int) := by omega
        have hkA : k = A := by rw [HA.out, hr0, Tr.app_nil]
        have HOK := Lib.hid (show wr.ownsRow W1.heap.size 5 1 u5 (bn + k.enc.length) (bytesV (b ++ k.enc)) by rw [hkA]; exact HOH.out)
        have k0 : wr.cell? ⟨w.heap.size, 0 + 0, none⟩ = some (.int .u8 (t : Nat)) := rangeAt_below HWR.out hbel 0 _ rfl
        have HV := Lib.hid (own_below (own_below HOWN.out HBW.out) ((Below.refl _ wr).alloc (Nat.le_refl _) (.cells #[.int .u8 (t : Nat)] 5)))
        have hvb : ∀ g, (Value.slice av n cv).ownBlock = some g → W0.heap.size ≤ g ∧ g < w.heap.size := fun g hg => HOWN.out.lt g hg
        have HVB := Lib.hid hvb
        have hhb : ∀ g, u5.ownBlock = some g → W1.heap.size ≤ g ∧ g < wr.heap.size := fun g hg => HOK.out.lt g hg
        have HHB := Lib.hid hhb
        have hl1 : bn + k.enc.length ≤ 65537 := by have := HEL.out; have := HB2.out; omega
        have hfin : xs ++ [t] ++ lenB (bn + k.enc.length) ++ (b ++ k.enc) = xs ++ encI t b k := by simp [encI, HBN.out]
        have hfl : n + 1 + (lenB (bn + k.enc.length)).length + (bn + k.enc.length) = n + (encI t b k).length := by have := HEL.out; omega
        have HFIN := Lib.hid hfin
        have HFL := Lib.hid hfl
        have hsm : n + (lenB (bn + k.enc.length)).length + 1000000 ≤ 140737488355328 := by have := HBD.out; have := lenB_len (bn + k.enc.length); omega
        have HSM := Lib.hid hsm
        have HH1 := Lib.hid hl1
        obtain ⟨ah, ch, rfl⟩ := own_slice HOK.out
        have h8 : ∀ z ∈ b ++ k.enc, z < 256 := by
          intro z hz
          rcases List.mem_append.1 hz with hz | hz
          · exact HB.out.1.2.2.1 z hz
          · exact kin_enc8 HK.out z hz
        have H8 := Lib.hid h8
        clear hr0 hkA hvb hhb hfin hfl hsm hl1 h8 HOH
        generalize bn + k.enc.length = hl at *
        have hbase : W0.heap.size ≤ wr.heap.size := by have := HBW.out.size; omega
        go_wp2_with (first | (at_builtin; refine wpList_append_at rfl (.tmp 23) (.tmp 26) rfl W0.heap.size (.slice av n cv) n xs rfl HV.out (some ⟨wr.heap.size, 0, none⟩) 1 1 [t] rfl (bin_one wr t ht) (by have := HSM.out; omega) (by simp only [World.size_alloc]; omega) ?_; intro v1 w3 ho1 hg1 ha1; have HO1 := Lib.hid ho1; have HG1 := Lib.hid hg1; have HA1 := Lib.hid ha1; have HK3 := Lib.hid (kept_apart (HOK.out.alloc (.cells #[.int .u8 (t : Nat)] 5)) hg1 (fun g h1 h2 => (by have h3 := HHB.out g h1; have h4 := HVB.out g h2; have h5 := HS1.out; omega))); clear ho1 hg1 ha1) | (go_at_call 87; (refine (ofLength_any hl HH1.out _).mono ?_); rintro e w4 ⟨vb, rfl, hob, hb4⟩; obtain ⟨ab, cb, rfl⟩ := own_slice hob; have HO14 := Lib.hid (own_below HO1.out hb4); have HK4 := Lib.hid (own_below HK3.out hb4); have HOB := Lib.hid hob; clear hob; obtain ⟨ab', cb', eb, hbl, _⟩ := own_in HOB.out (lenB_lt hl) (by have := HSM.out; omega); injection eb with eb1 eb2 eb3; subst eb1 eb3; have HBL := Lib.hid hbl; clear hbl) | (at_builtin; refine wpList_append_at rfl (.tmp 28) (.tmp 31) rfl W0.heap.size v1 (n + 1) (xs ++ [t]) rfl HO14.out ab (lenB hl).length cb (lenB hl) rfl HBL.out (by have := HSM.out; omega) (by have h1 := hb4.size; have h2 := HG1.out.size; simp only [World.size_alloc] at h2; omega) ?_; intro v2 w5 ho2 hg2 ha2; have HO5 := Lib.hid ho2; have HG2' := Lib.hid hg2; have HA2 := Lib.hid ha2; have HK5 := Lib.hid (kept_apart HK4.out hg2 (fun g h1 h2 => (by have h3 := HHB.out g h1; have h6 := HS1.out; rcases HA1.out g h2 with h4 | h4; (have h5 := HVB.out g h4; omega); (simp only [World.size_alloc] at h4; omega)))); clear ho2 hg2 ha2; obtain ⟨ah', ch', eh, hbh, _⟩ := own_in HK5.out H8.out (by have := HH1.out; omega); injection eh with eh1 eh2 eh3; subst eh1 eh3; have HBH := Lib.hid hbh; clear hbh) | (at_builtin; refine wpList_append_at rfl (.tmp 33) (.tmp 34) rfl W0.heap.size v2 (n + 1 + (lenB hl).length) (xs ++ [t] ++ lenB hl) rfl HO5.out ah hl ch (b ++ k.enc) rfl HBH.out (by have := HSM.out; have := HH1.out; omega) (by have h1 := hb4.size; have h2 := HG1.out.size; have h3 := HG2'.out.size; simp only [World.size_alloc] at h2; omega) ?_; intro v3 w6 ho3 hg3 ha3))
        go_ret
        have g0 : w.grownBy (wr.alloc (.cells #[.int .u8 (t : Nat)] 5)) (Value.slice av n cv).ownBlock := grown_below (HBW.out.alloc HBW.out.size _) _
        have hw1 : w.heap.size ≤ (wr.alloc (.cells #[.int .u8 (t : Nat)] 5)).heap.size := g0.size
        have g1 := grown_step g0 HG1.out (fun g hg => .inl hg)
        have g2 := grown_step g1 (grown_below hb4 none) (fun g hg => by cases hg)
        have a1 : ∀ g, v1.ownBlock = some g → (Value.slice av n cv).ownBlock = some g ∨ w.heap.size ≤ g := fun g hg => (HA1.out g hg).imp id (fun h => by omega)
        have g3 := grown_step g2 HG2'.out a1
        have a2' : ∀ g, v2.ownBlock = some g → (Value.slice av n cv).ownBlock = some g ∨ w.heap.size ≤ g := fun g hg => by
          rcases HA2.out g hg with h | h
          · exact a1 g h
          · exact .inr (Nat.le_trans g2.size h)
        have g4 := grown_step g3 hg3 a2'
        have a3' : ∀ g, v3.ownBlock = some g → (Value.slice av n cv).ownBlock = some g ∨ w.heap.size ≤ g := fun g hg => by
          rcases ha3 g hg with h | h
          · exact a2' g h
          · exact .inr (Nat.le_trans g3.size h)
        rw [HFIN.out, HFL.out] at ho3
        exact ⟨v3, rfl, ho3, g4, a3'⟩
end Go.Proofs.Ytbabpmncdphnjaa
