/- The document's Sum of the kind 2: the digest of the padded message. Condition: the list may grow so far. -/
import Derived.Test.YtnikhnpigopihaaDoorRefS
import Derived.Test.YtnikhnpigopihaaDoorRefW
import Derived.Test.YtnikhnpigopihaaDoorSum
import Derived.Deep.RegionHeld3
namespace Go.Proofs.YtnikhnpigopihaaDoor
open Go.RowKit
set_option linter.unusedVariables false
/-- how many noughts behind the byte 128 till the length fits -/
def padQ2 (m : Nat) : Nat := (2 * 128 - m % 128 - 1 - 16) % 128
/-- what stands behind the message, m bytes in the list, N bytes in all -/
def padR2 (m N : Nat) : List Nat := ([128] ++ zeros (padQ2 m + (16 - 8))) ++ beB 8 (N * 8 % 2 ^ 64)
theorem zeros_snoc2 (n : Nat) : zeros n ++ [0] = zeros (n + 1) := by unfold zeros; rw [List.replicate_succ']
/-- the message, the byte 128, so many noughts -/
def msgP2 (L : List Nat) (j : Nat) : List Nat := L ++ [128] ++ zeros j
theorem msgP_snoc2 (L : List Nat) (n : Nat) : msgP2 L n ++ [0] = msgP2 L (n + 1) := by unfold msgP2; rw [List.append_assoc, zeros_snoc2]
theorem cells92 {W : World} {g k n : Nat} {a0 a1 a2 a3 a4 a5 a6 a7 : Nat} {v : Value} (h : Blk W g 69 (rhV k [a0, a1, a2, a3, a4, a5, a6, a7] n v)) :
    W.cell? ⟨g, 0, none⟩ = some (.int .i64 (k : Nat)) ∧ W.cell? ⟨g, 1, none⟩ = some (.int .u64 (a0 : Nat)) ∧ W.cell? ⟨g, 2, none⟩ = some (.int .u64 (a1 : Nat)) ∧ W.cell? ⟨g, 3, none⟩ = some (.int .u64 (a2 : Nat)) ∧ W.cell? ⟨g, 4, none⟩ = some (.int .u64 (a3 : Nat)) ∧ W.cell? ⟨g, 5, none⟩ = some (.int .u64 (a4 : Nat)) ∧ W.cell? ⟨g, 6, none⟩ = some (.int .u64 (a5 : Nat)) ∧ W.cell? ⟨g, 7, none⟩ = some (.int .u64 (a6 : Nat)) ∧ W.cell? ⟨g, 8, none⟩ = some (.int .u64 (a7 : Nat)) :=
  ⟨by rw [h.cell]; rfl, by rw [h.cell]; rfl, by rw [h.cell]; rfl, by rw [h.cell]; rfl, by rw [h.cell]; rfl, by rw [h.cell]; rfl, by rw [h.cell]; rfl, by rw [h.cell]; rfl, by rw [h.cell]; rfl⟩
theorem zero82 {W : World} {g : Nat} (h : Blk W g 66 [.int .u64 0, .int .u64 0, .int .u64 0, .int .u64 0, .int .u64 0, .int .u64 0, .int .u64 0, .int .u64 0]) :
    W.cell? ⟨g, 0, none⟩ = some (.int .u64 0) ∧ W.frozen? ⟨g, 0, none⟩ = false ∧ W.cell? ⟨g, 1, none⟩ = some (.int .u64 0) ∧ W.frozen? ⟨g, 1, none⟩ = false ∧ W.cell? ⟨g, 2, none⟩ = some (.int .u64 0) ∧ W.frozen? ⟨g, 2, none⟩ = false ∧ W.cell? ⟨g, 3, none⟩ = some (.int .u64 0) ∧ W.frozen? ⟨g, 3, none⟩ = false ∧ W.cell? ⟨g, 4, none⟩ = some (.int .u64 0) ∧ W.frozen? ⟨g, 4, none⟩ = false ∧ W.cell? ⟨g, 5, none⟩ = some (.int .u64 0) ∧ W.frozen? ⟨g, 5, none⟩ = false ∧ W.cell? ⟨g, 6, none⟩ = some (.int .u64 0) ∧ W.frozen? ⟨g, 6, none⟩ = false ∧ W.cell? ⟨g, 7, none⟩ = some (.int .u64 0) ∧ W.frozen? ⟨g, 7, none⟩ = false :=
  ⟨by rw [h.cell]; rfl, h.free _, by rw [h.cell]; rfl, h.free _, by rw [h.cell]; rfl, h.free _, by rw [h.cell]; rfl, h.free _, by rw [h.cell]; rfl, h.free _, by rw [h.cell]; rfl, h.free _, by rw [h.cell]; rfl, h.free _, by rw [h.cell]; rfl, h.free _⟩
set_option maxRecDepth 100000 in
set_option maxHeartbeats 4000000 in
theorem refSum_2 (g base n : Nat) (s L : List Nat) (w : World) (h : RefAt w g base 2 s n L) (hn : n + L.length ≤ 2305843009213693951) (h47 : L.length + 300 ≤ 140737488355328) :
    Calls Tryd.prog 30 #[.pointer (some ⟨g, 0, none⟩)] w (AppIs w.heap.size ((beW (wB 2) (goes 64 s (L ++ padR2 L.length (n + L.length))).1).take 48) w) := by
  have HR := Lib.hid h
  obtain ⟨_, hs, hx, hL, hgb, hbw, v, hblk, ho⟩ := h
  obtain ⟨a, c, rfl, hbin, _⟩ := own_in ho hL (by omega)
  have HK := Lib.hid (fun (w : World) => Kind_2 w)
  have hk0 : w.cell? ⟨g, 0, none⟩ = some (.int .i64 2) := rh_kind hblk
  have hl0 := rh_l hblk hs
  have HBLK := Lib.hid hblk
  have HS := Lib.hid hs
  have HX := Lib.hid hx
  have HL := Lib.hid hL
  have HB := Lib.hid hbin
  have HNIL := Lib.hid (show w.ownsRow w.heap.size 5 1 (.slice none 0 0) 0 (bytesV []) from World.ownsRow_nil w w.heap.size 5 1)
  have hgl := hblk.lt
  have hzz : padQ2 L.length < 128 := Nat.mod_lt _ (by decide)
  have HZ := Lib.hid (show padQ2 L.length = (2 * 128 - L.length % 128 - 1 - 16) % 128 from rfl)
  have HPAD := Lib.hid (show padR2 L.length (n + L.length) = ([128] ++ zeros (padQ2 L.length + (16 - 8))) ++ beB 8 ((n + L.length) * 8 % 2 ^ 64) from rfl)
  clear hblk hs hx hL hbin ho
  have HMM := Lib.hid (show L.length = L.length from rfl)
  generalize hm : L.length = m at *
  have HM := Lib.hid hm
  clear hm HMM
  generalize padQ2 m = z at *
  go_enter Tryd.func30, Tryd.ntmps30
  go_wp2_with fail
  refine (HK.out _).mono ?_
  rintro e w' ⟨rfl, rfl⟩
  clear HK
  go_wp2_with (at_builtin; go_must (refine wpList_append_bytes _ rfl _ _ rfl w.heap.size (.slice none 0 0) 0 [] rfl HNIL.out a m c L rfl HB.out ?c1 ?c2 ?_))
  case c1 => omega
  case c2 => exact Nat.le_refl _
  intro v1 w1 h1 h2
  have hb1 : Below w.heap.size w w1 := (Below.refl w.heap.size w).grown h2 (Nat.le_refl _) (fun j hj => by cases hj)
  have hsz1 := hb1.size
  have HO1 := Lib.hid (h1.alloc (.cells #[.int .u8 (128 : Nat)] 5))
  have HN1 := Lib.hid (bin_one w1 128 (by decide))
  have hb1a := hb1.alloc hsz1 (.cells #[.int .u8 (128 : Nat)] 5)
  clear h1 h2 HNIL
  go_wp2_with (at_builtin; refine wpList_append_bytes _ rfl _ _ rfl w.heap.size v1 m L rfl HO1.out (some ⟨w1.heap.size, 0, none⟩) 1 1 [128] rfl HN1.out ?d1 ?d2 ?_)
  case d1 => omega
  case d2 => simp; omega
  intro v2 w2 h1 h2
  have hb2 := hb1a.grown h2 (by simp; omega) (fun j hj => (HO1.out.lt j hj).1)
  have HO2 := Lib.hid h1
  have hk2 : w2.cell? ⟨g, 0, none⟩ = some (.int .i64 2) := (hb2.cell (show g < w.heap.size from hgl)).trans hk0
  clear h1 h2 HO1 HN1 hb1 hb1a hsz1
  go_wp2_with fail
  have HO3 := Lib.hid (show w2.ownsRow w.heap.size 5 1 v2 (m + 1 + 0) (bytesV (msgP2 L 0)) from by rw [show msgP2 L 0 = L ++ [128] from List.append_nil _]; exact HO2.out)
  clear HO2
  go_loopw [7] (fun v wr => ∃ j : Nat, j ≤ z ∧ wr.ownsRow w.heap.size 5 1 v (m + 1 + j) (bytesV (msgP2 L j)) ∧ Below w.heap.size w wr) (fun v _ => m + 1 + z - lenOf v)
  case atStart => exact ⟨0, by omega, HO3.out, hb2⟩
  case round =>
    clear HO3 hb2 hk2
    obtain ⟨j, hj, ho, hbel⟩ := hrel
    obtain ⟨G, cap, rfl, hcap, hcap2, hG⟩ := own_form ho (by omega)
    have HO := Lib.hid ho
    clear ho
    have hszw := hbel.size
    have HAP := Lib.hid (msgP_snoc2 L j)
    have hr : (((m + 1 + j : Nat) : Int) + 16) % 128 = (((m + 1 + j + 16) % 128 : Nat) : Int) := by omega
    have hzdef := HZ.out
    by_cases hz : (m + 1 + j + 16) % 128 = 0
    · have hjz : j = z := by omega
      subst hjz
      have hr0 : (((m + 1 + j : Nat) : Int) + 16) % 128 = 0 := by omega
      clear hr hz hzdef
      generalize hmj : m + 1 + j = mj at *
      have HMJ := Lib.hid hmj
      have hmjb : mj + 1 ≤ 140737488355328 := by omega
      clear hmj
      go_wp2_with fail
      have HO3 := Lib.hid (show wr.ownsRow w.heap.size 5 1 (.slice (some ⟨G, 0, none⟩) mj cap) (m + 1 + j + 0) (bytesV (msgP2 L (j + 0))) from by rw [Nat.add_zero, HMJ.out]; exact HO.out)
      clear HO HAP hr0 hcap hcap2
      go_loopw [7, 9] (fun v i wr => ∃ q : Nat, q ≤ 16 - 8 ∧ i = .int .i64 ((8 + q : Nat) : Int) ∧ wr.ownsRow w.heap.size 5 1 v (m + 1 + j + q) (bytesV (msgP2 L (j + q))) ∧ Below w.heap.size w wr) (fun _ i _ => 16 - (intOf i).toNat)
      case atStart => exact ⟨0, by omega, rfl, HO3.out, hbel⟩
      case round =>
        clear HO3 hbel
        obtain ⟨q, hq, rfl, ho, hbel⟩ := hrel
        obtain ⟨G, cap, rfl, hcap, hcap2, hG⟩ := own_form ho (by omega)
        have HO := Lib.hid ho
        clear ho
        have hszw := hbel.size
        have HAP := Lib.hid (msgP_snoc2 L (j + q))
        have hmqb : m + 1 + j + q + 1 ≤ 140737488355328 := by have := HMJ.out; omega
        by_cases hq2 : q < 16 - 8
        · have hqi : ((8 + q : Nat) : Int) < 16 := by omega
          generalize hmq : m + 1 + j + q = mq at *
          have HMQ := Lib.hid hmq
          clear hmq
          generalize h8q : 8 + q = q8 at *
          have H8Q := Lib.hid h8q
          clear h8q
          have HO2 := Lib.hid (HO.out.alloc (.cells #[.int .u8 (0 : Nat)] 5))
          have HN1 := Lib.hid (bin_one wr 0 (by decide))
          have hb1a := hbel.alloc hszw (.cells #[.int .u8 (0 : Nat)] 5)
          go_wp2_with (at_builtin; go_must (refine wpList_append_bytes _ rfl _ _ rfl w.heap.size (.slice (some ⟨G, 0, none⟩) mq cap) mq (msgP2 L (j + q)) rfl HO2.out (some ⟨wr.heap.size, 0, none⟩) 1 1 [0] rfl HN1.out ?k1 ?k2 ?_))
          case k1 => omega
          case k2 => simp; omega
          intro v3 w3 h1 h2
          have hb3 := hb1a.grown h2 (by simp; omega) (fun j hj => (HO2.out.lt j hj).1)
          rw [HAP.out] at h1
          obtain ⟨G3, cap3, rfl, _, _, _⟩ := own_form h1 (by omega)
          have HO3 := Lib.hid (show w3.ownsRow w.heap.size 5 1 (.slice (some ⟨G3, 0, none⟩) (mq + 1) cap3) (m + 1 + j + (q + 1)) (bytesV (msgP2 L (j + (q + 1)))) from by rw [show m + 1 + j + (q + 1) = mq + 1 from by rw [← HMQ.out]; omega]; exact h1)
          have HQN := Lib.hid (show ((8 + (q + 1) : Nat) : Int) = (q8 : Int) + 1 from by rw [← H8Q.out]; omega)
          clear h1 h2
          go_wp2_with fail
          go_roundw
          case rel => exact ⟨q + 1, by omega, by rw [HQN.out], HO3.out, hb3⟩
          case measure => have := H8Q.out; simp [intOf]; omega
        · obtain rfl : q = 16 - 8 := by omega
          have hqi : ¬ (((8 + (16 - 8) : Nat) : Int) < 16) := by omega
          have hqe : ((8 + (16 - 8) : Nat) : Int) = 16 := rfl
          rw [hqe]
          clear hqe hqi HAP
          have HLEN := Lib.hid (show Calls Tryd.prog 22 #[.pointer (some ⟨g, 0, none⟩)] wr fun e w' => e = .returned (.int .u64 (n + m : Nat)) ∧ ∃ q, w' = wr.drewN q from by
            have := refLen_any g base 2 n s L wr (HR.out.below hbel) (by rw [HM.out]; omega) (by rw [HM.out]; omega)
            rwa [HM.out] at this)
          have hM0 : 0 < m + 1 + j + (16 - 8) := by omega
          have hMb : m + 1 + j + (16 - 8) + 10 ≤ 140737488355328 := by have := HMJ.out; omega
          have HPM := Lib.hid (show msgP2 L (j + (16 - 8)) ++ beB 8 ((n + m) * 8 % 2 ^ 64) = L ++ padR2 m (n + m) from by rw [HPAD.out]; unfold msgP2; simp only [List.append_assoc])
          generalize m + 1 + j + (16 - 8) = M at *
          generalize msgP2 L (j + (16 - 8)) = X at *
          generalize n + m = nm at *
          have hnb : nm * 8 % 2 ^ 64 < 2 ^ 64 := Nat.mod_lt _ (by decide)
          have enb : IntKind.u64.wrap ((nm : Int) * 8) = ((nm * 8 % 2 ^ 64 : Nat) : Int) := by rw [IntKind.wrap_u64]; omega
          have enb' : (nm : Int) * 8 = ((nm * 8 % 2 ^ 64 : Nat) : Int) := by omega
          generalize nm * 8 % 2 ^ 64 = nb at *
          clear HPAD HZ hzz
          go_wp2_with fail
          refine HLEN.out.mono ?_
          rintro e w' ⟨rfl, qn, rfl⟩
          clear HLEN
          have HO4 := Lib.hid (show (wr.drewN qn).ownsRow w.heap.size 5 1 (.slice (some ⟨G, 0, none⟩) M cap) (M + 0) (bytesV (X ++ tell (dig 8 nb) 0)) from by rw [show tell (dig 8 nb) 0 = [] from rfl, List.append_nil]; exact HO.out)
          have hbel4 := below_drewN hbel qn
          clear HO hbel hcap hcap2
          go_wp2_with fail
          go_loopw [7, 11] (fun v i wr => ∃ p : Nat, p ≤ 8 ∧ i = .int .i64 (7 - (p : Int)) ∧ wr.ownsRow w.heap.size 5 1 v (M + p) (bytesV (X ++ tell (dig 8 nb) p)) ∧ Below w.heap.size w wr) (fun _ i _ => (intOf i + 1).toNat)
          case atStart => exact ⟨0, by omega, by simp, HO4.out, hbel4⟩
          case round =>
            clear HO4 hbel4
            obtain ⟨p, hp, rfl, ho, hbel⟩ := hrel
            have hMp : 0 < M + p := by omega
            obtain ⟨G, cap, rfl, hcap, hcap2, hG⟩ := own_form ho hMp
            have HO := Lib.hid ho
            clear ho
            have hszw := hbel.size
            by_cases hp8 : p < 8
            · rw [show (7 : Int) - (p : Int) = ((7 - p : Nat) : Int) from by omega]
              have hge0 : (0 : Int) ≤ ((7 - p : Nat) : Int) := by omega
              have hdg : (nb : Int) / 2 ^ (8 * (7 - p)) % 256 = ((dig 8 nb p : Nat) : Int) := by
                rw [show dig 8 nb p = nb / 2 ^ (8 * (7 - p)) % 256 from rfl, cast_pow, ← Int.natCast_ediv]; rfl
              have hdgl := dig_lt 8 nb p
              have HT := Lib.hid (tell_succ (dig 8 nb) p)
              have u1 : IntKind.u64.wrap ((7 - p : Nat) : Int) = ((7 - p : Nat) : Int) := u64_cast _ (by omega)
              have u2 : IntKind.u64.wrap (8 * ((7 - p : Nat) : Int)) = ((8 * (7 - p) : Nat) : Int) := by rw [show 8 * ((7 - p : Nat) : Int) = ((8 * (7 - p) : Nat) : Int) from by omega]; exact u64_cast _ (by omega)
              have u2' : 8 * ((7 - p : Nat) : Int) = ((8 * (7 - p) : Nat) : Int) := by omega
              have e5 : min (8 * (7 - p)) 64 = 8 * (7 - p) := by omega
              have h56 : 8 * (7 - p) ≤ 56 := by omega
              have HNX := Lib.hid (show (7 : Int) - ((p + 1 : Nat) : Int) = ((7 - p : Nat) : Int) - 1 from by omega)
              generalize dig 8 nb p = y at *
              generalize 8 * (7 - p) = E at *
              have hpe7 : 7 - p ≤ 7 := by omega
              generalize hpe : 7 - p = pe at *
              have HPE := Lib.hid hpe
              clear hpe
              generalize hmp : M + p = mp at *
              have HMP := Lib.hid hmp
              have hmpb : mp + 1 ≤ 140737488355328 := by omega
              clear hmp
              have HO2 := Lib.hid (HO.out.alloc (.cells #[.int .u8 (y : Nat)] 5))
              have HN1 := Lib.hid (bin_one wr y hdgl)
              have hb1a := hbel.alloc hszw (.cells #[.int .u8 (y : Nat)] 5)
              go_wp2_with (at_builtin; go_must (refine wpList_append_bytes _ rfl _ _ rfl w.heap.size (.slice (some ⟨G, 0, none⟩) mp cap) mp (X ++ tell (dig 8 nb) p) rfl HO2.out (some ⟨wr.heap.size, 0, none⟩) 1 1 [y] rfl HN1.out ?m1 ?m2 ?_))
              case m1 => omega
              case m2 => simp; omega
              intro v3 w3 h1 h2
              have hb3 := hb1a.grown h2 (by simp; omega) (fun j hj => (HO2.out.lt j hj).1)
              have h1' : w3.ownsRow w.heap.size 5 1 v3 (mp + 1) (bytesV (X ++ tell (dig 8 nb) (p + 1))) := by
                rw [HT.out, ← List.append_assoc]; simpa using h1
              obtain ⟨G3, cap3, rfl, _, _, _⟩ := own_form h1' (by omega)
              have HO3 := Lib.hid (show w3.ownsRow w.heap.size 5 1 (.slice (some ⟨G3, 0, none⟩) (mp + 1) cap3) (M + (p + 1)) (bytesV (X ++ tell (dig 8 nb) (p + 1))) from by rw [show M + (p + 1) = mp + 1 from by rw [← HMP.out]; omega]; exact h1')
              clear h1 h1' h2 u1 u2 u2' hdg
              go_wp2_with fail
              go_roundw
              case rel => exact ⟨p + 1, by omega, by rw [HNX.out], HO3.out, hb3⟩
              case measure => have := HPE.out; simp [intOf] <;> omega
            · obtain rfl : p = 8 := by omega
              have hneg : ¬ (0 : Int) ≤ 7 - ((8 : Nat) : Int) := by omega
              have HO8 := Lib.hid (show wr.ownsRow w.heap.size 5 1 (.slice (some ⟨G, 0, none⟩) (M + 8) cap) (M + 8) (bytesV (L ++ padR2 m nm)) from by rw [← HPM.out]; exact HO.out)
              clear HO HPM hnb enb enb'
              generalize hM8 : M + 8 = M8 at *
              have hM8b : M8 ≤ 140737488355328 := by omega
              have HPL := Lib.hid (show ∀ x ∈ L ++ padR2 m nm, x < 256 from fun x hx => (List.mem_append.1 hx).elim (HL.out x) (fun hx => by
                unfold padR2 at hx
                rcases List.mem_append.1 hx with hx | hx
                · rcases List.mem_append.1 hx with hx | hx
                  · obtain rfl := List.mem_singleton.1 hx; decide
                  · rw [List.eq_of_mem_replicate hx]; decide
                · exact beB_lt _ _ x hx))
              obtain ⟨aP, cP, hvP, hbinP, _⟩ := own_in HO8.out HPL.out hM8b
              simp only [Value.slice.injEq] at hvP
              obtain ⟨rfl, _, rfl⟩ := hvP
              generalize L ++ padR2 m nm = PM at *
              obtain ⟨a0, a1, a2, a3, a4, a5, a6, a7, hs8⟩ := list8 HS.out
              have hgs := goes_state (W := 64) (by decide) _ s PM rfl HS.out HX.out
              obtain ⟨b0, b1, b2, b3, b4, b5, b6, b7, hb8⟩ := list8 hgs.1
              have HRES := Lib.hid hb8
              have HXB := Lib.hid hgs.2
              rw [hb8] at HXB
              have hb9 : (goes (wW 2) [a0, a1, a2, a3, a4, a5, a6, a7] PM).1 = [b0, b1, b2, b3, b4, b5, b6, b7] := by rw [← hs8]; exact hb8
              have HBP := Lib.hid hbinP
              have HGOES := Lib.hid (show ∀ W, Below wr.heap.size wr W → Calls Tryd.prog 48 #[.int .i64 2, .agg #[.int .u64 (a0 : Nat), .int .u64 (a1 : Nat), .int .u64 (a2 : Nat), .int .u64 (a3 : Nat), .int .u64 (a4 : Nat), .int .u64 (a5 : Nat), .int .u64 (a6 : Nat), .int .u64 (a7 : Nat)], .slice (some ⟨G, 0, none⟩) M8 cap] W
                (fun e w' => (∃ A1 r1 c1, e = .returned (.tuple #[.agg #[.int .u64 (b0 : Nat), .int .u64 (b1 : Nat), .int .u64 (b2 : Nat), .int .u64 (b3 : Nat), .int .u64 (b4 : Nat), .int .u64 (b5 : Nat), .int .u64 (b6 : Nat), .int .u64 (b7 : Nat)], .slice A1 r1 c1])) ∧ Below W.heap.size W w') from by
                intro W hW
                have HGC := goes_any 2 (.inr (.inl rfl)) s (some ⟨G, 0, none⟩) M8 cap PM W HS.out HX.out (HBP.out.below hW)
                rw [hs8] at HGC
                exact HGC.mono fun e w' ⟨A1, c1, he, _, h⟩ => ⟨⟨A1, (goes (wW 2) [a0, a1, a2, a3, a4, a5, a6, a7] PM).2.length, c1, he.trans (by rw [hb9]; rfl)⟩, h⟩)
              have hblkr := HBLK.out.below hbel hgl
              rw [hs8] at hblkr
              have HBR := Lib.hid hblkr
              have KS := Lib.hid (show ∀ w', Below wr.heap.size wr w' → w'.cell? ⟨g, 0, none⟩ = some (.int .i64 2) ∧ w'.cell? ⟨g, 1, none⟩ = some (.int .u64 (a0 : Nat)) ∧ w'.cell? ⟨g, 2, none⟩ = some (.int .u64 (a1 : Nat)) ∧ w'.cell? ⟨g, 3, none⟩ = some (.int .u64 (a2 : Nat)) ∧ w'.cell? ⟨g, 4, none⟩ = some (.int .u64 (a3 : Nat)) ∧ w'.cell? ⟨g, 5, none⟩ = some (.int .u64 (a4 : Nat)) ∧ w'.cell? ⟨g, 6, none⟩ = some (.int .u64 (a5 : Nat)) ∧ w'.cell? ⟨g, 7, none⟩ = some (.int .u64 (a6 : Nat)) ∧ w'.cell? ⟨g, 8, none⟩ = some (.int .u64 (a7 : Nat)) ∧ Below wr.heap.size wr w' from by
                intro w' hb
                have h := cells92 (HBR.out.below' hb)
                exact ⟨h.1, h.2.1, h.2.2.1, h.2.2.2.1, h.2.2.2.2.1, h.2.2.2.2.2.1, h.2.2.2.2.2.2.1, h.2.2.2.2.2.2.2.1, h.2.2.2.2.2.2.2.2, hb⟩)
              have BR := Lib.hid (Below.refl wr.heap.size wr)
              have HGA := Lib.hid (show Calls Tryd.prog 48 #[.int .i64 2, .agg #[.int .u64 (a0 : Nat), .int .u64 (a1 : Nat), .int .u64 (a2 : Nat), .int .u64 (a3 : Nat), .int .u64 (a4 : Nat), .int .u64 (a5 : Nat), .int .u64 (a6 : Nat), .int .u64 (a7 : Nat)], .slice (some ⟨G, 0, none⟩) M8 cap] (wr.alloc (.cells #[.int .u64 0, .int .u64 0, .int .u64 0, .int .u64 0, .int .u64 0, .int .u64 0, .int .u64 0, .int .u64 0] 66)).drew (fun e w' => (∃ A1 r1 c1, e = .returned (.tuple #[.agg #[.int .u64 (b0 : Nat), .int .u64 (b1 : Nat), .int .u64 (b2 : Nat), .int .u64 (b3 : Nat), .int .u64 (b4 : Nat), .int .u64 (b5 : Nat), .int .u64 (b6 : Nat), .int .u64 (b7 : Nat)], .slice A1 r1 c1])) ∧ Below wr.heap.size wr w' ∧ Blk w' wr.heap.size 66 [.int .u64 0, .int .u64 0, .int .u64 0, .int .u64 0, .int .u64 0, .int .u64 0, .int .u64 0, .int .u64 0]) from by
                refine (HGOES.out _ ((BR.out.alloc (Nat.le_refl _) _).drew)).mono ?_
                rintro e w' ⟨h1, h2⟩
                refine ⟨h1, (BR.out.alloc (Nat.le_refl _) _).drew.trans (h2.mono (Nat.le_of_lt (by simp))), ?_⟩
                exact (Blk.new wr 66 [.int .u64 0, .int .u64 0, .int .u64 0, .int .u64 0, .int .u64 0, .int .u64 0, .int .u64 0, .int .u64 0]).drew.below' h2)
              have HGB := Lib.hid (show Calls Tryd.prog 48 #[.int .i64 2, .agg #[.int .u64 (a0 : Nat), .int .u64 (a1 : Nat), .int .u64 (a2 : Nat), .int .u64 (a3 : Nat), .int .u64 (a4 : Nat), .int .u64 (a5 : Nat), .int .u64 (a6 : Nat), .int .u64 (a7 : Nat)], .slice (some ⟨G, 0, none⟩) M8 cap] wr.drew (fun e w' => (∃ A1 r1 c1, e = .returned (.tuple #[.agg #[.int .u64 (b0 : Nat), .int .u64 (b1 : Nat), .int .u64 (b2 : Nat), .int .u64 (b3 : Nat), .int .u64 (b4 : Nat), .int .u64 (b5 : Nat), .int .u64 (b6 : Nat), .int .u64 (b7 : Nat)], .slice A1 r1 c1])) ∧ Below wr.heap.size wr w') from by
                refine (HGOES.out _ BR.out.drew).mono ?_
                rintro e w' ⟨h1, h2⟩
                exact ⟨h1, BR.out.drew.trans h2⟩)
              clear hblkr hbinP hs8 hb8 hb9 hgs hcap hcap2
              go_wp2_with fail
              go_region_held3 (fun w' => w'.cell? ⟨g, 0, none⟩ = some (.int .i64 2) ∧ w'.cell? ⟨g, 1, none⟩ = some (.int .u64 (a0 : Nat)) ∧ w'.cell? ⟨g, 2, none⟩ = some (.int .u64 (a1 : Nat)) ∧ w'.cell? ⟨g, 3, none⟩ = some (.int .u64 (a2 : Nat)) ∧ w'.cell? ⟨g, 4, none⟩ = some (.int .u64 (a3 : Nat)) ∧ w'.cell? ⟨g, 5, none⟩ = some (.int .u64 (a4 : Nat)) ∧ w'.cell? ⟨g, 6, none⟩ = some (.int .u64 (a5 : Nat)) ∧ w'.cell? ⟨g, 7, none⟩ = some (.int .u64 (a6 : Nat)) ∧ w'.cell? ⟨g, 8, none⟩ = some (.int .u64 (a7 : Nat)) ∧ Below wr.heap.size wr w') ((refine KS.out _ ?_; (repeat (with_reducible apply Below.setCell; rotate_left; (first | exact Nat.le_refl _ | exact hbx.size))); first | (with_reducible exact hbx) | (with_reducible exact hbx.alloc hbx.size _) | exact BR.out.drew | exact (BR.out.alloc (Nat.le_refl _) _).drew | exact (BR.out.drew.alloc (Nat.le_refl _) _))) (first | (go_at_call 48; refine HGA.out.mono ?_; rintro e wx ⟨⟨A1, r1, c1, rfl⟩, hbx, hz8⟩; obtain ⟨z0, f0, z1, f1, z2, f2, z3, f3, z4, f4, z5, f5, z6, f6, z7, f7⟩ := zero82 hz8) | (go_at_call 48; refine HGB.out.mono ?_; rintro e wx ⟨⟨A1, r1, c1, rfl⟩, hbx⟩))
              · go_wp2_with fail
                have hb2 : Below wr.heap.size wr (wx.alloc (.cells #[.int .u64 (b0 : Nat), .int .u64 (b1 : Nat), .int .u64 (b2 : Nat), .int .u64 (b3 : Nat), .int .u64 (b4 : Nat), .int .u64 (b5 : Nat), .int .u64 (b6 : Nat), .int .u64 (b7 : Nat)] 66)) := hbx.alloc hbx.size _
                have hq : Blk (wx.alloc (.cells #[.int .u64 (b0 : Nat), .int .u64 (b1 : Nat), .int .u64 (b2 : Nat), .int .u64 (b3 : Nat), .int .u64 (b4 : Nat), .int .u64 (b5 : Nat), .int .u64 (b6 : Nat), .int .u64 (b7 : Nat)] 66)) wx.heap.size 66 (natsV .u64 [b0, b1, b2, b3, b4, b5, b6, b7]) := Blk.new wx 66 (natsV .u64 [b0, b1, b2, b3, b4, b5, b6, b7])
                generalize wx.alloc (.cells #[.int .u64 (b0 : Nat), .int .u64 (b1 : Nat), .int .u64 (b2 : Nat), .int .u64 (b3 : Nat), .int .u64 (b4 : Nat), .int .u64 (b5 : Nat), .int .u64 (b6 : Nat), .int .u64 (b7 : Nat)] 66) = W at *
                generalize wx.heap.size = g2 at *
                have HBW := Lib.hid (show Below w.heap.size w W from hbel.trans (hb2.mono hszw))
                have pk : W.cell? ⟨g, 0, none⟩ = some (.int .i64 2) := (cells92 (HBR.out.below' hb2)).1
                obtain ⟨q0, q1, q2, q3, q4, q5, q6, q7, _, _, _, _, _, _, _, _⟩ := eightFacts hq
                have hwl : (beW (wB 2) [b0, b1, b2, b3, b4, b5, b6, b7]).length = 64 := (beW_length _ _).trans rfl
                have hx64 : ∀ x ∈ [b0, b1, b2, b3, b4, b5, b6, b7], x < 2 ^ 64 := fun x hx => Nat.lt_of_lt_of_le (HXB.out x hx) (Nat.pow_le_pow_right (by decide) (by decide))
                have HWD := Lib.hid (words_any 2 (.inr (.inl rfl)) [b0, b1, b2, b3, b4, b5, b6, b7] W.drew rfl hx64)
                have HAW := Lib.hid (show Calls Tryd.prog 49 #[.int .i64 2, .agg #[.int .u64 (b0 : Nat), .int .u64 (b1 : Nat), .int .u64 (b2 : Nat), .int .u64 (b3 : Nat), .int .u64 (b4 : Nat), .int .u64 (b5 : Nat), .int .u64 (b6 : Nat), .int .u64 (b7 : Nat)]] W.drew
                  (fun e w' => ∃ G cap, e = .returned (.slice (some ⟨G, 0, none⟩) 64 cap) ∧ 64 ≤ cap ∧ cap ≤ maxLen ∧ w'.ownsRow W.heap.size 5 1 (.slice (some ⟨G, 0, none⟩) 64 cap) 64 (bytesV (beW (wB 2) [b0, b1, b2, b3, b4, b5, b6, b7])) ∧ Below W.heap.size W w') from
                  HWD.out.mono fun e w' h => by
                    obtain ⟨v, he, ho, hb⟩ := h
                    rw [hwl] at ho
                    obtain ⟨G, cap, rfl, h1, h2, _⟩ := own_form ho (by omega)
                    exact ⟨G, cap, he, h1, h2, ho, ⟨hb.os, hb.tape, hb.output, hb.size, hb.block⟩⟩)
                have HEND := Lib.hid (fun (G cap : Nat) (w4 : World) (ho : w4.ownsRow W.heap.size 5 1 (.slice (some ⟨G, 0, none⟩) 64 cap) 64 (bytesV (beW (wB 2) [b0, b1, b2, b3, b4, b5, b6, b7]))) (hb : Below W.heap.size W w4) =>
                  sumEnd (dg := 48) ho hb HBW.out (by omega) hwl)
                clear hwl hx64 HWD hq hb2
                go_region_with (go_at_call 49; refine HAW.out.mono ?_; rintro e w4 ⟨G5, cap5, rfl, hc1, hc2, ho4, hb4⟩; have hdgI : (48 : Int) ≤ (cap5 : Int) := by omega)
                all_goals (go_wp2_with fail; go_ret; exact ⟨_, rfl, by rw [HRES.out]; exact (HEND.out G5 cap5 w4 ho4 hb4).1, (HEND.out G5 cap5 w4 ho4 hb4).2⟩)
              · go_wp2_with fail
                have hb2 : Below wr.heap.size wr (((((((((wx).setCell ⟨wr.heap.size, 0, none⟩ (.int .u64 (b0 : Nat))).setCell ⟨wr.heap.size, 1, none⟩ (.int .u64 (b1 : Nat))).setCell ⟨wr.heap.size, 2, none⟩ (.int .u64 (b2 : Nat))).setCell ⟨wr.heap.size, 3, none⟩ (.int .u64 (b3 : Nat))).setCell ⟨wr.heap.size, 4, none⟩ (.int .u64 (b4 : Nat))).setCell ⟨wr.heap.size, 5, none⟩ (.int .u64 (b5 : Nat))).setCell ⟨wr.heap.size, 6, none⟩ (.int .u64 (b6 : Nat))).setCell ⟨wr.heap.size, 7, none⟩ (.int .u64 (b7 : Nat))) := below_setCells (Nat.le_refl _) (natsV .u64 [b0, b1, b2, b3, b4, b5, b6, b7]) 0 wx hbx
                have hq : Blk (((((((((wx).setCell ⟨wr.heap.size, 0, none⟩ (.int .u64 (b0 : Nat))).setCell ⟨wr.heap.size, 1, none⟩ (.int .u64 (b1 : Nat))).setCell ⟨wr.heap.size, 2, none⟩ (.int .u64 (b2 : Nat))).setCell ⟨wr.heap.size, 3, none⟩ (.int .u64 (b3 : Nat))).setCell ⟨wr.heap.size, 4, none⟩ (.int .u64 (b4 : Nat))).setCell ⟨wr.heap.size, 5, none⟩ (.int .u64 (b5 : Nat))).setCell ⟨wr.heap.size, 6, none⟩ (.int .u64 (b6 : Nat))).setCell ⟨wr.heap.size, 7, none⟩ (.int .u64 (b7 : Nat))) wr.heap.size 66 (natsV .u64 [b0, b1, b2, b3, b4, b5, b6, b7]) := eightSet (a0 := 0) (a1 := 0) (a2 := 0) (a3 := 0) (a4 := 0) (a5 := 0) (a6 := 0) (a7 := 0) hz8
                generalize ((((((((wx).setCell ⟨wr.heap.size, 0, none⟩ (.int .u64 (b0 : Nat))).setCell ⟨wr.heap.size, 1, none⟩ (.int .u64 (b1 : Nat))).setCell ⟨wr.heap.size, 2, none⟩ (.int .u64 (b2 : Nat))).setCell ⟨wr.heap.size, 3, none⟩ (.int .u64 (b3 : Nat))).setCell ⟨wr.heap.size, 4, none⟩ (.int .u64 (b4 : Nat))).setCell ⟨wr.heap.size, 5, none⟩ (.int .u64 (b5 : Nat))).setCell ⟨wr.heap.size, 6, none⟩ (.int .u64 (b6 : Nat))).setCell ⟨wr.heap.size, 7, none⟩ (.int .u64 (b7 : Nat)) = W at *
                have HBW := Lib.hid (show Below w.heap.size w W from hbel.trans (hb2.mono hszw))
                have pk : W.cell? ⟨g, 0, none⟩ = some (.int .i64 2) := (cells92 (HBR.out.below' hb2)).1
                obtain ⟨q0, q1, q2, q3, q4, q5, q6, q7, _, _, _, _, _, _, _, _⟩ := eightFacts hq
                have hwl : (beW (wB 2) [b0, b1, b2, b3, b4, b5, b6, b7]).length = 64 := (beW_length _ _).trans rfl
                have hx64 : ∀ x ∈ [b0, b1, b2, b3, b4, b5, b6, b7], x < 2 ^ 64 := fun x hx => Nat.lt_of_lt_of_le (HXB.out x hx) (Nat.pow_le_pow_right (by decide) (by decide))
                have HWD := Lib.hid (words_any 2 (.inr (.inl rfl)) [b0, b1, b2, b3, b4, b5, b6, b7] W.drew rfl hx64)
                have HAW := Lib.hid (show Calls Tryd.prog 49 #[.int .i64 2, .agg #[.int .u64 (b0 : Nat), .int .u64 (b1 : Nat), .int .u64 (b2 : Nat), .int .u64 (b3 : Nat), .int .u64 (b4 : Nat), .int .u64 (b5 : Nat), .int .u64 (b6 : Nat), .int .u64 (b7 : Nat)]] W.drew
                  (fun e w' => ∃ G cap, e = .returned (.slice (some ⟨G, 0, none⟩) 64 cap) ∧ 64 ≤ cap ∧ cap ≤ maxLen ∧ w'.ownsRow W.heap.size 5 1 (.slice (some ⟨G, 0, none⟩) 64 cap) 64 (bytesV (beW (wB 2) [b0, b1, b2, b3, b4, b5, b6, b7])) ∧ Below W.heap.size W w') from
                  HWD.out.mono fun e w' h => by
                    obtain ⟨v, he, ho, hb⟩ := h
                    rw [hwl] at ho
                    obtain ⟨G, cap, rfl, h1, h2, _⟩ := own_form ho (by omega)
                    exact ⟨G, cap, he, h1, h2, ho, ⟨hb.os, hb.tape, hb.output, hb.size, hb.block⟩⟩)
                have HEND := Lib.hid (fun (G cap : Nat) (w4 : World) (ho : w4.ownsRow W.heap.size 5 1 (.slice (some ⟨G, 0, none⟩) 64 cap) 64 (bytesV (beW (wB 2) [b0, b1, b2, b3, b4, b5, b6, b7]))) (hb : Below W.heap.size W w4) =>
                  sumEnd (dg := 48) ho hb HBW.out (by omega) hwl)
                clear hwl hx64 HWD hq hb2
                go_region_with (go_at_call 49; refine HAW.out.mono ?_; rintro e w4 ⟨G5, cap5, rfl, hc1, hc2, ho4, hb4⟩; have hdgI : (48 : Int) ≤ (cap5 : Int) := by omega)
                all_goals (go_wp2_with fail; go_ret; exact ⟨_, rfl, by rw [HRES.out]; exact (HEND.out G5 cap5 w4 ho4 hb4).1, (HEND.out G5 cap5 w4 ho4 hb4).2⟩)

    · have hjz : j < z := by omega
      have hrb : ((((m + 1 + j + 16) % 128 : Nat) : Int) != 0) = true := by rw [bne_iff_ne]; omega
      clear hzdef hz
      generalize (m + 1 + j + 16) % 128 = r at *
      generalize hmj : m + 1 + j = mj at *
      have HMJ := Lib.hid hmj
      have hmjb : mj + 1 ≤ 140737488355328 := by omega
      clear hmj
      have HO2 := Lib.hid (HO.out.alloc (.cells #[.int .u8 (0 : Nat)] 5))
      have HN1 := Lib.hid (bin_one wr 0 (by decide))
      have hb1a := hbel.alloc hszw (.cells #[.int .u8 (0 : Nat)] 5)
      go_wp2_with (at_builtin; refine wpList_append_bytes _ rfl _ _ rfl w.heap.size (.slice (some ⟨G, 0, none⟩) mj cap) mj (msgP2 L j) rfl HO2.out (some ⟨wr.heap.size, 0, none⟩) 1 1 [0] rfl HN1.out ?e1 ?e2 ?_)
      case e1 => omega
      case e2 => simp; omega
      intro v3 w3 h1 h2
      have hb3 := hb1a.grown h2 (by simp; omega) (fun j hj => (HO2.out.lt j hj).1)
      rw [HAP.out] at h1
      obtain ⟨G3, cap3, rfl, _, _, _⟩ := own_form h1 (by omega)
      have HO3 := Lib.hid (show w3.ownsRow w.heap.size 5 1 (.slice (some ⟨G3, 0, none⟩) (mj + 1) cap3) (m + 1 + (j + 1)) (bytesV (msgP2 L (j + 1))) from by rw [show m + 1 + (j + 1) = mj + 1 from by rw [← HMJ.out]; omega]; exact h1)
      clear h1 h2 hr hrb
      go_wp2_with fail
      go_roundw
      case rel => exact ⟨j + 1, by omega, HO3.out, hb3⟩
      case measure => have := HMJ.out; simp [lenOf]; omega
end Go.Proofs.YtnikhnpigopihaaDoor
