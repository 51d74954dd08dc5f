/- Parts of proofs of statements, each text behind those that it stands on. No condition of its own. -/
import Derived.Test.YtbabpmncdphnjaaGreatQ06
import Derived.Test.YtbabpmncdphnjaaGreatQ11
namespace Go.Proofs.YtbabpmncdphnjaaGreat
set_option linter.unusedVariables false
set_option maxRecDepth 100000
def hdL (t n : Nat) : List Nat := if n < 128 then [t, n] else if n < 256 then [t, 129, n] else if n < 65536 then [t, 130, n / 256 % 256, n % 256] else [t, 131, n / 65536 % 256, n / 256 % 256, n % 256]
theorem hdL_short {t n : Nat} (h : n < 65536) : hdL t n = t :: lenB n := by
  unfold hdL lenB; repeat' split
  all_goals first | rfl | (exfalso; omega)
theorem hdL_len (t n : Nat) : 2 ≤ (hdL t n).length ∧ (hdL t n).length ≤ 5 := by
  unfold hdL; repeat' split
  all_goals simp
theorem hdL_max (t : Nat) : (hdL t 65536).length = 5 := by unfold hdL; simp
theorem hdL_lt {t n : Nat} (ht : t < 256) : ∀ x ∈ hdL t n, x < 256 := by
  unfold hdL; repeat' split
  all_goals (intro x hx; simp at hx; omega)
def wrapD (t : Nat) (i : List Nat) : List Nat := if 65536 < i.length then hdL t 65536 ++ i else hdL t i.length ++ i
theorem wrapD_len (t : Nat) (i : List Nat) : i.length + 2 ≤ (wrapD t i).length ∧ (wrapD t i).length ≤ 5 + i.length := by
  unfold wrapD; split
  · have := hdL_len t 65536; simp only [List.length_append]; omega
  · have := hdL_len t i.length; simp only [List.length_append]; omega
def Tr.dIn : Tr → List Nat → List Nat
  | .nil, acc => acc
  | .node t b k r, acc => if acc.length ≤ 65536 then r.dIn (acc ++ wrapD t (if t / 32 % 2 = 1 then k.dIn [] else b)) else acc
def dI (t : Nat) (b : List Nat) (k : Tr) : List Nat := wrapD t (if t / 32 % 2 = 1 then k.dIn [] else b)
theorem dIn_node (t : Nat) (b : List Nat) (k r : Tr) (acc : List Nat) : (Tr.node t b k r).dIn acc = if acc.length ≤ 65536 then r.dIn (acc ++ dI t b k) else acc := rfl
theorem dIn_long (T : Tr) (acc : List Nat) (h : 65536 < acc.length) : T.dIn acc = acc := by
  cases T with
  | nil => rfl
  | node t b k r => simp only [Tr.dIn]; rw [if_neg (by omega)]
theorem dIn_sz : ∀ (T : Tr) (acc : List Nat), (T.dIn acc).length ≤ acc.length + 6 * T.sz
  | .nil, acc => by simp [Tr.dIn]
  | .node t b k r, acc => by
    rw [dIn_node]
    split
    · have h1 := dIn_sz r (acc ++ dI t b k)
      have h2 : (dI t b k).length ≤ 5 + (b.length + 6 * k.sz) := by
        have h3 := (wrapD_len t (if t / 32 % 2 = 1 then k.dIn [] else b)).2
        unfold dI
        split at h3
        · have h4 := dIn_sz k []
          rename_i hq; rw [if_pos hq]; simp only [List.length_nil] at h4; omega
        · rename_i hq; rw [if_neg hq]; omega
      simp only [List.length_append, Tr.sz] at h1 ⊢
      omega
    · omega
theorem dI_sz (t : Nat) (b : List Nat) (k : Tr) : (dI t b k).length ≤ 5 + (b.length + 6 * k.sz) := by
  have h3 := (wrapD_len t (if t / 32 % 2 = 1 then k.dIn [] else b)).2
  unfold dI
  split at h3
  · have h4 := dIn_sz k []
    rename_i hq; rw [if_pos hq]; simp only [List.length_nil] at h4; omega
  · rename_i hq; rw [if_neg hq]; omega
theorem dIn_ge : ∀ (T : Tr) (acc : List Nat), acc.length ≤ (T.dIn acc).length
  | .nil, acc => Nat.le_refl _
  | .node t b k r, acc => by
    rw [dIn_node]
    split
    · have := dIn_ge r (acc ++ dI t b k)
      simp only [List.length_append] at this; omega
    · exact Nat.le_refl _
theorem wrap_right {t : Nat} {b i : List Nat} {k : Tr} (m : Nat) (hm : b.length + k.enc.length = m) (h1 : m ≤ 65536 → i = b ++ k.enc) (h2 : 65536 < m → 65536 < i.length) :
    ((encI t b k).length ≤ 65536 → wrapD t i = encI t b k) ∧ (65536 < (encI t b k).length → 65536 < (wrapD t i).length) := by
  have hl := encI_length t b k
  have hb := lenB_len (b.length + k.enc.length)
  rw [hm] at hl hb
  refine ⟨fun h => ?_, fun h => ?_⟩
  · have hi := h1 (by omega)
    have hil : i.length = m := by rw [hi, List.length_append]; exact hm
    unfold wrapD
    rw [if_neg (by omega), hil, hdL_short (by omega), hi]
    simp [encI, hm]
  · by_cases hc : m ≤ 65536
    · have hi := h1 hc
      have hil : i.length = m := by rw [hi, List.length_append]; exact hm
      unfold wrapD
      rw [if_neg (by omega), hil, List.length_append, hil]
      by_cases hm2 : m = 65536
      · subst hm2; rw [hdL_max]; omega
      · rw [hdL_short (by omega), List.length_cons]; omega
    · have := (wrapD_len t i).1
      have := h2 (by omega)
      omega
theorem dIn_right : ∀ (T : Tr) (d : Nat) (acc : List Nat), T.err d = 0 → (acc.length + T.enc.length ≤ 65536 → T.dIn acc = acc ++ T.enc) ∧ (65536 < acc.length + T.enc.length → 65536 < (T.dIn acc).length)
  | .nil, d, acc, _ => by simp [Tr.dIn, Tr.enc]
  | .node t b k r, d, acc, he => by
    rw [err_node] at he
    have he1 : errI t b k d = 0 := by
      by_cases h : errI t b k d = 0
      · exact h
      · rw [if_pos h] at he; exact he
    rw [if_neg (by omega)] at he
    obtain ⟨h1, h2, h3, h4, h5⟩ := errI_zero he1
    have hI : ((encI t b k).length ≤ 65536 → dI t b k = encI t b k) ∧ (65536 < (encI t b k).length → 65536 < (dI t b k).length) := by
      by_cases hq : t / 32 % 2 = 1
      · obtain rfl := h3 hq
        have hk := dIn_right k (d + 1) [] h5
        simp only [List.length_nil, Nat.zero_add, List.nil_append] at hk
        unfold dI; rw [if_pos hq]
        exact wrap_right k.enc.length (by simp) (fun h => by simpa using hk.1 h) (fun h => hk.2 h)
      · obtain rfl := h4 hq
        unfold dI; rw [if_neg hq]
        exact wrap_right b.length (by simp [Tr.enc]) (fun h => by simp [Tr.enc]) (fun h => h)
    rw [dIn_node, enc_node]
    simp only [List.length_append]
    by_cases ha : acc.length ≤ 65536
    · rw [if_pos ha]
      by_cases hl : (encI t b k).length ≤ 65536
      · rw [hI.1 hl]
        have hr := dIn_right r d (acc ++ encI t b k) he
        simp only [List.length_append] at hr
        refine ⟨fun h => ?_, fun h => ?_⟩
        · rw [hr.1 (by omega)]; simp
        · exact hr.2 (by omega)
      · have hx := hI.2 (by omega)
        rw [dIn_long r _ (by simp only [List.length_append]; omega)]
        refine ⟨fun h => by omega, fun h => ?_⟩
        simp only [List.length_append]; omega
    · rw [if_neg ha]
      exact ⟨fun h => by omega, fun h => by omega⟩
theorem dI_right {t : Nat} {b : List Nat} {k : Tr} {d : Nat} (he : errI t b k d = 0) : ((encI t b k).length ≤ 65536 → dI t b k = encI t b k) ∧ (65536 < (encI t b k).length → 65536 < (dI t b k).length) := by
  obtain ⟨h1, h2, h3, h4, h5⟩ := errI_zero he
  by_cases hq : t / 32 % 2 = 1
  · obtain rfl := h3 hq
    have hk := dIn_right k (d + 1) [] h5
    simp only [List.length_nil, Nat.zero_add, List.nil_append] at hk
    unfold dI; rw [if_pos hq]
    exact wrap_right k.enc.length (by simp) (fun h => by simpa using hk.1 h) (fun h => hk.2 h)
  · obtain rfl := h4 hq
    unfold dI; rw [if_neg hq]
    exact wrap_right b.length (by simp [Tr.enc]) (fun h => by simp [Tr.enc]) (fun h => h)
end Go.Proofs.YtbabpmncdphnjaaGreat
namespace Go.Proofs.YtbabpmncdphnjaaGreat
open Go.RowKit
set_option linter.unusedVariables false
set_option maxRecDepth 100000
set_option maxHeartbeats 1000000 in
theorem head_any (t n : Nat) (ht : t < 256) (hn : n ≤ 1048576) (w : World) : Calls Tryz.prog 90 #[.int .u8 (t : Nat), .int .i64 (n : Nat)] w (Made (hdL t n) w) := by
  by_cases h1 : n < 128
  · have h1i : (n : Int) < 128 := by omega
    have HX := Lib.hid (show hdL t n = [t, n] by unfold hdL; rw [if_pos h1])
    go_enter Tryz.func90, Tryz.ntmps90
    go_wp2
    go_ret
    rw [HX.out]
    refine made_lit w _ _ ?_ (by simp) 2 rfl
    simp [bytesV] <;> omega
  · have h1i : ¬ (n : Int) < 128 := by omega
    by_cases h2 : n < 256
    · have h2i : (n : Int) < 256 := by omega
      have HX := Lib.hid (show hdL t n = [t, 129, n] by unfold hdL; rw [if_neg h1, if_pos h2])
      go_enter Tryz.func90, Tryz.ntmps90
      go_wp2
      go_ret
      rw [HX.out]
      refine made_lit w _ _ ?_ (by simp) 3 rfl
      simp [bytesV] <;> omega
    · have h2i : ¬ (n : Int) < 256 := by omega
      by_cases h3 : n < 65536
      · have h3i : (n : Int) < 65536 := by omega
        have HX := Lib.hid (show hdL t n = [t, 130, n / 256 % 256, n % 256] by unfold hdL; rw [if_neg h1, if_neg h2, if_pos h3])
        go_enter Tryz.func90, Tryz.ntmps90
        go_wp2
        go_ret
        rw [HX.out]
        refine made_lit w _ _ ?_ (by simp) 4 rfl
        simp [bytesV] <;> omega
      · have h3i : ¬ (n : Int) < 65536 := by omega
        have HX := Lib.hid (show hdL t n = [t, 131, n / 65536 % 256, n / 256 % 256, n % 256] by unfold hdL; rw [if_neg h1, if_neg h2, if_neg h3])
        go_enter Tryz.func90, Tryz.ntmps90
        go_wp2
        go_ret
        rw [HX.out]
        refine made_lit w _ _ ?_ (by simp) 5 rfl
        simp [bytesV] <;> omega
theorem wrapD_lt {t : Nat} {i : List Nat} (ht : t < 256) (h : ∀ x ∈ i, x < 256) : ∀ x ∈ wrapD t i, x < 256 := by
  intro x hx
  unfold wrapD at hx
  split at hx
  · rcases List.mem_append.1 hx with hx | hx
    · exact hdL_lt ht x hx
    · exact h x hx
  · rcases List.mem_append.1 hx with hx | hx
    · exact hdL_lt ht x hx
    · exact h x hx
theorem row_dIn8 {w : World} : ∀ {T : Tr} {b o : Nat} (acc : List Nat), Row w T b o → (∀ z ∈ acc, z < 256) → ∀ z ∈ T.dIn acc, z < 256
  | .nil, _, _, acc, _, h => h
  | .node t bs k r, b, o, acc, ⟨h1, h2, ⟨a, c, h3, h4⟩, ⟨a', c', h5, h6, h7⟩, h8⟩, h => by
    rw [dIn_node]
    split
    · refine row_dIn8 _ h8 (fun z hz => ?_)
      rcases List.mem_append.1 hz with hz | hz
      · exact h z hz
      · refine wrapD_lt h1 ?_ z hz
        split
        · rcases h7 with h7 | ⟨b', o', _, h7⟩
          · rw [Tr.len_zero h7]; simp [Tr.dIn]
          · exact row_dIn8 [] h7 (by simp)
        · exact h4.1.2.2.1
    · exact h
theorem kin_dIn8 {w : World} {a : Option Addr} {c : Nat} {k : Tr} (h : KIn w a c k) : ∀ z ∈ k.dIn [], z < 256 := by
  rcases h.2 with h2 | ⟨b, o, _, h2⟩
  · rw [Tr.len_zero h2]; simp [Tr.dIn]
  · exact row_dIn8 [] h2 (by simp)
theorem dI_lt {w : World} {t : Nat} {a : Option Addr} {c : Nat} {a' : Option Addr} {c' : Nat} {b : List Nat} {k : Tr} (h : ItIn w t a c a' c' b k) : ∀ z ∈ dI t b k, z < 256 := by
  refine wrapD_lt h.1 ?_
  split
  · exact kin_dIn8 h.2.2
  · exact h.2.1.1.2.2.1
set_option maxRecDepth 100000 in
set_option maxHeartbeats 8000000 in
theorem bytes_any : ∀ (N : Nat) (k : Tr), k.sz < N → ∀ (w : World) (t : Nat) (b : List Nat) (a : Option Addr) (c : Nat) (a' : Option Addr) (c' : Nat), ItIn w t a c a' c' b k → 1 + b.length + k.sz ≤ 20000000 →
    Calls Tryz.prog 53 #[itV t a b.length c a' k.len c'] w (Made (dI t b k) w) := by
  intro N
  induction N with
  | zero => intro k h; omega
  | succ N ih =>
    intro k hsz w t b a c a' c' hin hbd
    obtain ⟨ht, hb, hk⟩ := hin
    have HB := Lib.hid hb
    have HK := Lib.hid hk
    have IH := Lib.hid ih
    have HS := Lib.hid hsz
    have HBD := Lib.hid hbd
    have h0 := fun o => (Below.refl _ w).alloc (Nat.le_refl _) o
    have hkm : k.len ≤ 140737488355328 := hk.1.2.1
    clear hb hk ih hsz hbd
    have hW := rangeAt_new w (.int .u8 (t : Nat)) (.slice a b.length c) (.slice a' k.len c') 45
    by_cases hkd : t / 32 % 2 = 1
    · have hD : dI t b k = wrapD t (k.dIn []) := by unfold dI; rw [if_pos hkd]
      have HD := Lib.hid hD
      clear hD
      have H0 := Lib.hid (h0 (.cells #[.int .u8 (t : Nat), .slice a b.length c, .slice a' k.len c'] 45))
      have hs1 : w.heap.size < (w.alloc (.cells #[.int .u8 (t : Nat), .slice a b.length c, .slice a' k.len c'] 45)).heap.size := by simp
      generalize hbn : b.length = bn at *
      generalize hkn : k.len = kn at *
      have HKN := Lib.hid hkn
      clear hbn hkn
      go_enter Tryz.func53, Tryz.ntmps53
      go_wp2_with (first | (go_at_call 86; refine (Built_any t ht _).mono ?_; rintro e w' ⟨rfl, rfl⟩))
      have HW := Lib.hid hW
      have HS1 := Lib.hid hs1
      clear hW hs1
      generalize w.alloc (.cells #[.int .u8 (t : Nat), .slice a bn c, .slice a' kn c'] 45) = W1 at *
      go_loopw [3, 5] (fun h i wr => ∃ (A r : Tr) (j : Nat) (acc : List Nat), k = A.app r ∧ A.len = j ∧ i = .int .i64 (j : Nat) ∧ wr.ownsRow W1.heap.size 5 1 h acc.length (bytesV acc) ∧ r.dIn acc = k.dIn [] ∧ (∀ z ∈ acc, z < 256) ∧ Below W1.heap.size W1 wr) (fun _ i _ => kn - (intOf i).toNat)
      case atStart => exact ⟨.nil, k, 0, [], rfl, rfl, rfl, World.ownsRow_nil _ _ _ _, rfl, by simp, Below.refl _ _⟩
      case round =>
        obtain ⟨A, r, j, acc, hA, hj, rfl, hown, hdi, hacc, hbel⟩ := hrel
        have hlen : j + r.len = kn := by rw [← HKN.out, hA, Tr.len_app, hj]
        obtain ⟨ah, ch, rfl⟩ := own_slice hown
        have HA := Lib.hid hA
        have HJ := Lib.hid hj
        have HOH := Lib.hid hown
        have HDI := Lib.hid hdi
        have HAC := Lib.hid hacc
        have HBW := Lib.hid (H0.out.trans (hbel.mono (Nat.le_of_lt HS1.out)))
        have hWr := rangeAt_below HW.out hbel
        have k2 : wr.cell? ⟨w.heap.size, 0 + 2, none⟩ = some (.slice a' kn c') := hWr 2 _ rfl
        have k0 : wr.cell? ⟨w.heap.size, 0 + 0, none⟩ = some (.int .u8 (t : Nat)) := hWr 0 _ rfl
        have hab : acc.length ≤ 6 * 20000000 := by
          have h1 := dIn_sz k []
          have h2 := dIn_ge r acc
          rw [hdi] at h2
          have := HBD.out
          simp only [List.length_nil] at h1; omega
        have HAB := Lib.hid hab
        clear hA hj hown hdi hacc hWr hab
        by_cases hjk : j < kn ∧ acc.length ≤ 65536
        · obtain ⟨hjk, hal⟩ := hjk
          have hji : (j : Int) < (kn : Int) := by omega
          have hai : (acc.length : Int) ≤ 65536 := by omega
          obtain ⟨t1, b1, k1, r1, rfl⟩ := Tr.len_pos (T := r) (by omega)
          obtain ⟨b', o', rfl, hrow⟩ := HK.out.2.resolve_left (by have := HKN.out; omega)
          have hsz3 := Tr.sz_app A (.node t1 b1 k1 r1)
          rw [← HA.out] at hsz3
          simp only [Tr.sz] at hsz3
          have hszk : k1.sz < N := by have h2 := HS.out; omega
          have hbd3 : 1 + b1.length + k1.sz ≤ 20000000 := by have := HBD.out; omega
          rw [HA.out] at hrow
          have hrow3 := Row.below HBW.out (Row.append hrow).2
          rw [show o' + 3 * A.len = o' + j * 3 by rw [HJ.out]; omega] at hrow3
          obtain ⟨a1, cc1, a2, cc2, hra, hit, _⟩ := hrow3.head
          have HR := Lib.hid hra
          have HC := Lib.hid (IH.out k1 hszk wr t1 b1 a1 cc1 a2 cc2 hit hbd3)
          have H8 := Lib.hid (dI_lt hit)
          have HDS := Lib.hid (show (dI t1 b1 k1).length ≤ 130000000 by have := dI_sz t1 b1 k1; omega)
          have HNX := Lib.hid (show r1.dIn (acc ++ dI t1 b1 k1) = k.dIn [] by rw [← HDI.out, dIn_node, if_pos hal])
          clear hrow hrow3 hra hit hsz3 hszk hbd3
          go_wp2_with (first | (refine ldI rfl (.tmp 28) rfl b' (o' + j * 3) rfl _ _ _ HR.out ?_) | (go_at_call 53; (refine HC.out.mono ?_); rintro e w3 ⟨v3, rfl, hown3, hb3⟩; obtain ⟨a3, c3, rfl⟩ := own_slice hown3; have HOH := Lib.hid (own_below HOH.out hb3); obtain ⟨a3', c3', e3, hi3, _⟩ := own_in hown3 H8.out (by have := HDS.out; omega); injection e3 with e31 e32 e33; subst e31 e33; have HI3 := Lib.hid hi3; have HB3 := Lib.hid (hbel.trans (hb3.mono hbel.size)); clear hown3 hi3) | (at_builtin; refine wpList_append_bytes _ rfl (.tmp 24) (.tmp 30) rfl W1.heap.size (.slice ah acc.length ch) acc.length acc rfl HOH.out a3 (dI t1 b1 k1).length c3 (dI t1 b1 k1) rfl HI3.out (by have := HDS.out; omega) HB3.out.size ?_; intro v4 w4 ho4 hg4))
          have hb4 : Below W1.heap.size W1 w4 := HB3.out.grown hg4 HB3.out.size (fun x hx => (HOH.out.lt x hx).1)
          rw [← List.length_append] at ho4
          go_roundw
          case rel => exact ⟨A.app (.node t1 b1 k1 .nil), r1, j + 1, acc ++ dI t1 b1 k1, by rw [HA.out, Tr.app_assoc]; rfl, by rw [Tr.len_app, HJ.out]; rfl, by go_num, ho4, HNX.out, (by intro z hz; rcases List.mem_append.1 hz with hz | hz; exact HAC.out z hz; exact H8.out z hz), hb4⟩
          case measure => simp [intOf]; omega
        · have HFI := Lib.hid (show acc = k.dIn [] by
            rw [← HDI.out]
            by_cases h1 : j < kn
            · exact (dIn_long r acc (by omega)).symm
            · rw [Tr.len_zero (T := r) (by omega)]; rfl)
          obtain ⟨ah', ch', eh, hbh, _⟩ := own_in HOH.out HAC.out (by have := HAB.out; omega)
          injection eh with eh1 eh2 eh3
          subst eh1 eh3
          have HBH := Lib.hid hbh
          clear hbh
          by_cases hlong : 65536 < acc.length
          · have hli : (65536 : Int) < (acc.length : Int) := by omega
            have HD2 := Lib.hid (show dI t b k = hdL t 65536 ++ acc by rw [HD.out, ← HFI.out]; unfold wrapD; rw [if_pos hlong])
            have H6 : Hid (∀ wx : World, Calls Tryz.prog 90 #[.int .u8 (t : Nat), .int .i64 65536] wx (Made (hdL t 65536) wx)) := Lib.hid (head_any t 65536 ht (by omega))
            go_wp2_with (first | (go_at_call 90; ((with_reducible refine (H6.out _).mono ?_); rintro e w2 ⟨v2, rfl, hown, hb2⟩; have HO := Lib.hid hown; have HB2 := Lib.hid (HBH.out.below hb2); have HH2 := Lib.hid (HBW.out.trans (hb2.mono HBW.out.size)); clear hown)) | (at_builtin; refine wpList_append_bytes _ rfl (.tmp 37) (.tmp 38) rfl w.heap.size v2 (hdL t 65536).length (hdL t 65536) rfl (ownsMono HO.out HBW.out.size) ah acc.length ch acc rfl HB2.out (by have := hdL_len t 65536; have := HAB.out; omega) HH2.out.size ?_; intro v3 w3 ho3 hg3))
            all_goals
              go_ret
              rw [HD2.out]
              refine ⟨v3, rfl, ?_, HH2.out.grown hg3 HH2.out.size (fun x hx => Nat.le_trans HBW.out.size (HO.out.lt x hx).1)⟩
              rw [List.length_append]
              exact ho3
          · have hli : ¬ (65536 : Int) < (acc.length : Int) := by omega
            have HD2 := Lib.hid (show dI t b k = hdL t acc.length ++ acc by rw [HD.out, ← HFI.out]; unfold wrapD; rw [if_neg hlong])
            go_wp2_with (first | (go_at_call 90; ((with_reducible refine (head_any t acc.length ht (by omega) _).mono ?_); rintro e w2 ⟨v2, rfl, hown, hb2⟩; have HO := Lib.hid hown; have HB2 := Lib.hid (HBH.out.below hb2); have HH2 := Lib.hid (HBW.out.trans (hb2.mono HBW.out.size)); clear hown)) | (at_builtin; refine wpList_append_bytes _ rfl (.tmp 44) (.tmp 45) rfl w.heap.size v2 (hdL t acc.length).length (hdL t acc.length) rfl (ownsMono HO.out HBW.out.size) ah acc.length ch acc rfl HB2.out (by have := hdL_len t acc.length; have := HAB.out; omega) HH2.out.size ?_; intro v3 w3 ho3 hg3))
            all_goals
              go_ret
              rw [HD2.out]
              refine ⟨v3, rfl, ?_, HH2.out.grown hg3 HH2.out.size (fun x hx => Nat.le_trans HBW.out.size (HO.out.lt x hx).1)⟩
              rw [List.length_append]
              exact ho3
    · have hD : dI t b k = wrapD t b := by unfold dI; rw [if_neg hkd]
      generalize hbn : b.length = bn at *
      have HBN := Lib.hid hbn
      by_cases hlong : 65536 < bn
      · have hW2 : wrapD t b = hdL t 65536 ++ b := by unfold wrapD; rw [hbn, if_pos hlong]
        have HD := Lib.hid (hD.trans hW2)
        have hli : (65536 : Int) < (bn : Int) := by omega
        have H6 : Hid (∀ wx : World, Calls Tryz.prog 90 #[.int .u8 (t : Nat), .int .i64 65536] wx (Made (hdL t 65536) wx)) := Lib.hid (head_any t 65536 ht (by omega))
        clear hD hW2 hbn
        have H0 := Lib.hid (h0 (.cells #[.int .u8 (t : Nat), .slice a bn c, .slice a' k.len c'] 45))
        have HB1 := Lib.hid (HB.out.below H0.out)
        go_enter Tryz.func53, Tryz.ntmps53
        go_wp2_with (first | (go_at_call 86; refine (Built_any t ht _).mono ?_; rintro e w' ⟨rfl, rfl⟩) | (go_at_call 90; (with_reducible refine (H6.out _).mono ?_); rintro e w2 ⟨v2, rfl, hown, hb2⟩; have HO := Lib.hid hown; have HB2 := Lib.hid (HB1.out.below hb2); have HH2 := Lib.hid (H0.out.trans (hb2.mono H0.out.size)); clear hown) | (at_builtin; refine wpList_append_bytes _ rfl (.tmp 37) (.tmp 38) rfl w.heap.size v2 (hdL t 65536).length (hdL t 65536) rfl (ownsMono HO.out H0.out.size) a bn c b rfl HB2.out (by have := hdL_len t 65536; have := HBD.out; omega) HH2.out.size ?_; intro v3 w3 ho3 hg3))
        go_ret
        rw [HD.out]
        refine ⟨v3, rfl, ?_, HH2.out.grown hg3 HH2.out.size (fun x hx => Nat.le_trans H0.out.size (HO.out.lt x hx).1)⟩
        rw [List.length_append, HBN.out]
        exact ho3
      · have hW2 : wrapD t b = hdL t bn ++ b := by unfold wrapD; rw [hbn, if_neg hlong]
        have HD := Lib.hid (hD.trans hW2)
        have hli : ¬ (65536 : Int) < (bn : Int) := by omega
        clear hD hW2 hbn
        have H0 := Lib.hid (h0 (.cells #[.int .u8 (t : Nat), .slice a bn c, .slice a' k.len c'] 45))
        have HB1 := Lib.hid (HB.out.below H0.out)
        go_enter Tryz.func53, Tryz.ntmps53
        go_wp2_with (first | (go_at_call 86; refine (Built_any t ht _).mono ?_; rintro e w' ⟨rfl, rfl⟩) | (go_at_call 90; refine (head_any t bn ht (by omega) _).mono ?_; rintro e w2 ⟨v2, rfl, hown, hb2⟩; have HO := Lib.hid hown; have HB2 := Lib.hid (HB1.out.below hb2); have HH2 := Lib.hid (H0.out.trans (hb2.mono H0.out.size)); clear hown) | (at_builtin; refine wpList_append_bytes _ rfl (.tmp 44) (.tmp 45) rfl w.heap.size v2 (hdL t bn).length (hdL t bn) rfl (ownsMono HO.out H0.out.size) a bn c b rfl HB2.out (by have := hdL_len t bn; omega) HH2.out.size ?_; intro v3 w3 ho3 hg3))
        go_ret
        rw [HD.out]
        refine ⟨v3, rfl, ?_, HH2.out.grown hg3 HH2.out.size (fun x hx => Nat.le_trans H0.out.size (HO.out.lt x hx).1)⟩
        rw [List.length_append, HBN.out]
        exact ho3
end Go.Proofs.YtbabpmncdphnjaaGreat
namespace Go.Proofs.YtbabpmncdphnjaaGreat
open Go.RowKit
set_option linter.unusedVariables false
set_option maxRecDepth 100000
theorem right_is {t : Nat} {b : List Nat} {k : Tr} {d : Nat} {w : World} {e : Ending} {w' : World} (h : RtIs t b k d w e w') {x : Nat} (hx : errI t b k d = x) : e = .returned (.int .i64 (x : Nat)) ∧ Below w.heap.size w w' := by subst hx; exact h
set_option maxRecDepth 100000 in
set_option maxHeartbeats 8000000 in
theorem refEnc_any (w : World) (t : Nat) (b : List Nat) (k : Tr) (a : Option Addr) (c : Nat) (a' : Option Addr) (c' : Nat) (hin : ItIn w t a c a' c' b k) (hbd : 1 + b.length + k.sz ≤ 20000000) : Calls Tryz.prog 29 #[itV t a b.length c a' k.len c'] w (EncIs (encE t b k) w) := by
  have HW := Lib.hid (Blk.new w 45 [.int .u8 (t : Nat), .slice a b.length c, .slice a' k.len c'])
  have h0 := (Below.refl _ w).alloc (Nat.le_refl _) (.cells #[.int .u8 (t : Nat), .slice a b.length c, .slice a' k.len c'] 45)
  have HIN := Lib.hid (hin.below h0)
  have H0 := Lib.hid h0
  have HBD := Lib.hid hbd
  clear hin h0 hbd
  go_enter Tryz.func29, Tryz.ntmps29
  generalize hW1 : w.alloc (.cells #[.int .u8 (t : Nat), .slice a b.length c, .slice a' k.len c'] 45) = W1 at *
  have hR : Calls Tryz.prog 52 #[itV t a b.length c a' k.len c', .int .i64 1] W1 (RtIs t b k 1 W1) := right_any (k.sz + 1) k (Nat.lt_succ_self _) W1 t b a c a' c' 1 HIN.out (by omega)
  by_cases h1 : errI t b k 1 = 0
  · have HR : Hid (Calls Tryz.prog 52 #[itV t a b.length c a' k.len c', .int .i64 1] W1 fun e w' => e = .returned (.int .i64 0) ∧ Below W1.heap.size W1 w') := Lib.hid (hR.mono fun e w' h => right_is h h1)
    have HP := Lib.hid (dI_right h1)
    have HDS := Lib.hid (show (dI t b k).length ≤ 130000000 by have := dI_sz t b k; have := HBD.out; omega)
    have HD8 := Lib.hid (dI_lt HIN.out)
    clear hR
    by_cases hlong : 65536 < (dI t b k).length
    · have HX := Lib.hid (show encE t b k = .error 121 by
        unfold encE; rw [if_neg (by omega), if_pos]
        by_cases h5 : (encI t b k).length ≤ 65536
        · have := HP.out.1 h5; rw [this] at hlong; omega
        · omega)
      have hli : (65536 : Int) < ((dI t b k).length : Int) := by omega
      generalize hdn : dI t b k = D at *
      go_wp2_with (first | (refine wpList_load_row (P := Tryz.prog) rfl 45 (.tmp 1) rfl w.heap.size rfl 45 _ _ _ HW.out Tryz.underlying45 rfl info25 ?_) | (go_at_call 52; ((with_reducible refine HR.out.mono ?_); rintro e w2 ⟨rfl, hb2⟩; have HW := Lib.hid (HW.out.below' hb2); have HIN := Lib.hid (HIN.out.below hb2); have H0 := Lib.hid (H0.out.trans (hb2.mono H0.out.size)))) | (go_at_call 53; have hs := bytes_any (k.sz + 1) k (Nat.lt_succ_self _) w2 t b a c a' c' HIN.out HBD.out; rw [hdn] at hs; ((with_reducible refine hs.mono ?_); rintro e w3 ⟨v3, rfl, hown, hb3⟩; obtain ⟨a3, c3, rfl⟩ := own_slice hown; obtain ⟨a3', c3', e3, hi3, _⟩ := own_in hown HD8.out (by have := HDS.out; omega); injection e3 with e31 e32 e33; subst e31 e33; have HI3 := Lib.hid hi3; have H0 := Lib.hid (H0.out.trans (hb3.mono H0.out.size)); clear hown hi3)))
      go_ret2
      exact EncIs.err HX.out H0.out
    · have HX := Lib.hid (show encE t b k = .ok (dI t b k) by
        have h5 : (encI t b k).length ≤ 65536 := by
          by_cases h5 : 65536 < (encI t b k).length
          · exact absurd (HP.out.2 h5) hlong
          · omega
        unfold encE; rw [if_neg (by omega), if_neg (by omega), HP.out.1 h5])
      have hli : ¬ (65536 : Int) < ((dI t b k).length : Int) := by omega
      generalize hdn : dI t b k = D at *
      go_wp2_with (first | (refine wpList_load_row (P := Tryz.prog) rfl 45 (.tmp 1) rfl w.heap.size rfl 45 _ _ _ HW.out Tryz.underlying45 rfl info25 ?_) | (go_at_call 52; ((with_reducible refine HR.out.mono ?_); rintro e w2 ⟨rfl, hb2⟩; have HW := Lib.hid (HW.out.below' hb2); have HIN := Lib.hid (HIN.out.below hb2); have H0 := Lib.hid (H0.out.trans (hb2.mono H0.out.size)))) | (go_at_call 53; have hs := bytes_any (k.sz + 1) k (Nat.lt_succ_self _) w2 t b a c a' c' HIN.out HBD.out; rw [hdn] at hs; ((with_reducible refine hs.mono ?_); rintro e w3 ⟨v3, rfl, hown, hb3⟩; obtain ⟨a3, c3, rfl⟩ := own_slice hown; obtain ⟨a3', c3', e3, hi3, _⟩ := own_in hown HD8.out (by have := HDS.out; omega); injection e3 with e31 e32 e33; subst e31 e33; have HI3 := Lib.hid hi3; have H0 := Lib.hid (H0.out.trans (hb3.mono H0.out.size)); clear hown hi3)))
      go_ret2
      exact EncIs.good HX.out H0.out rfl HI3.out
  · have HX := Lib.hid (show encE t b k = .error (errI t b k 1) by unfold encE; rw [if_pos h1])
    generalize hxn : errI t b k 1 = x at *
    have HR := Lib.hid (hR.mono fun e w' h => right_is h hxn)
    have hxi : ¬ (x : Int) = 0 := by omega
    clear hR
    go_wp2_with (first | (refine wpList_load_row (P := Tryz.prog) rfl 45 (.tmp 1) rfl w.heap.size rfl 45 _ _ _ HW.out Tryz.underlying45 rfl info25 ?_) | (go_at_call 52; ((with_reducible refine HR.out.mono ?_); rintro e w2 ⟨rfl, hb2⟩; have HW := Lib.hid (HW.out.below' hb2); have HIN := Lib.hid (HIN.out.below hb2); have H0 := Lib.hid (H0.out.trans (hb2.mono H0.out.size)))))
    go_ret2
    exact EncIs.err HX.out H0.out
end Go.Proofs.YtbabpmncdphnjaaGreat
