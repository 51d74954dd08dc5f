/- The document's Open of a state. Condition: none but that the bytes are a state. -/
import Derived.Test.YtnikhnpigopihaaDoorROn
import Derived.Test.YtnikhnpigopihaaDoorState
import Derived.Test.YtnikhnpigopihaaDoorRefK
namespace Go.Proofs.YtnikhnpigopihaaDoor
open Go.RowKit
set_option linter.unusedVariables false
set_option linter.unusedSimpArgs false
/-- what the document's Open answers for a state -/
def RefOp (k n : Nat) (S T : List Nat) (w : World) (e : Ending) (w' : World) : Prop := ∃ g, e = .returned (.tuple #[.pointer (some ⟨g, 0, none⟩), .bool true]) ∧ w.heap.size ≤ g ∧ RefAt w' g (g + 1) k S n T ∧ Below w.heap.size w w'
theorem built69k (k n : Int) : Tryd.prog.built 69 [(0, .int .i64 k), (2, .int .u64 n)] =
    some (Value.int .i64 k :: ([Value.int .u64 0, Value.int .u64 0, Value.int .u64 0, Value.int .u64 0, Value.int .u64 0, Value.int .u64 0, Value.int .u64 0, Value.int .u64 0] ++ [.int .u64 n, .slice none 0 0])).toArray := by kernel_rfl
theorem built69r (k n : Nat) : Tryd.prog.built 69 [(0, .int .i64 (k : Nat)), (2, .int .u64 (n : Nat))] = some (rhV k (zeros 8) n (.slice none 0 0)).toArray := built69k k n
theorem rh_setWord {w : World} {g k n i x : Nat} {s : List Nat} {v : Value} (h : Blk w g 69 (rhV k s n v)) (hi : i < s.length) : Blk (w.setCell ⟨g, 1 + i, none⟩ (.int .u64 (x : Nat))) g 69 (rhV k (s.set i x) n v) := by
  have h1 := h.set (1 + i) (.int .u64 (x : Nat))
  have e : (rhV k s n v).set (1 + i) (.int .u64 (x : Nat)) = rhV k (s.set i x) n v := by
    unfold rhV
    rw [Nat.add_comm 1 i, List.set_cons_succ, List.set_append_left _ _ (by rw [natsV_length]; exact hi), natsV_set]
  rw [e] at h1; exact h1
theorem set_nought (f : Nat → Nat) (t : Nat) (ht : t < 8) : (tell f t ++ zeros (8 - t)).set t 0 = tell f t ++ zeros (8 - t) := set_zero (tell f t) (8 - t) t (tell_length f t)
set_option maxRecDepth 100000 in
set_option maxHeartbeats 1600000 in
theorem refOpen_ok (b off m c : Nat) (L : List Nat) (k n : Nat) (w : World) (hb : BIn w (some ⟨b, off, none⟩) m c L) (hk : IsKind k) (hL0 : L.getD 0 0 = k) (hLn : be ((L.drop 1).take 8) = n) (hn : n ≤ 2305843009213693951) (hm : m = 9 + 8 * wB k + n % (2 * wW k)) :
    Calls Tryd.prog 25 #[.slice (some ⟨b, off, none⟩) m c] w (RefOp k (n - n % (2 * wW k)) (tell (stW k L) 8) (L.drop (9 + 8 * wB k)) w) := by
  have hm9 : 9 ≤ m := by omega
  have hc1 := hb.2.1
  have hc2 := hb.2.2.1
  have hm47 := hb.2.2.2.1
  unfold maxLen at hc2
  obtain ⟨b', o', he, hcell⟩ := hb.1.2.2.2.resolve_left (by omega)
  injection he with he
  injection he with e1 e2
  subst e1 e2
  have hc0 := hcell 0 (by omega)
  rw [hL0, Nat.add_zero] at hc0
  have HC := Lib.hid hcell
  have HB := Lib.hid hb
  have HLN := Lib.hid hLn
  have HKK := Lib.hid hk
  have HSTL := Lib.hid (stW_lt k L hb.1.2.2.1)
  clear hb hcell hL0 hLn
  have h0m : 0 < m := by omega
  have hm9b : decide ((m : Int) < 9) = false := by simp; omega
  have hk13 : 1 ≤ k ∧ k ≤ 3 := by rcases hk with rfl | rfl | rfl <;> omega
  have q1 : decide ((k : Int) < 1) = false := by simp; omega
  have q2 : decide ((3 : Int) < (k : Int)) = false := by simp; omega
  have HKI := Lib.hid (show ∀ w, Calls Tryd.prog 32 #[.int .i64 (k : Nat)] w fun e w' => e = .returned (.tuple #[.int .u64 (wW k : Nat), .int .i64 (16 * wB k : Nat), .int .i64 (rounds (wW k) : Nat), .int .i64 (dgB k : Nat)]) ∧ w = w' from fun w => Kind_any k hk w)
  have hW : wW k = 8 * wB k := by unfold wW wB; split <;> rfl
  have hwb : wB k ≤ 8 ∧ 4 ≤ wB k := by unfold wB; split <;> omega
  have HSTW := Lib.hid (show stW k L = fun i => be ((L.drop (9 + i * wB k)).take (wB k)) from rfl)
  have hW2 : 2 * wW k = 16 * wB k := by omega
  rw [hW2] at hm ⊢
  rw [hW] at HKI
  clear hW2
  generalize rounds (8 * wB k) = rd at *
  generalize dgB k = dg at *
  generalize hwbe : wB k = wb at *
  obtain ⟨W8, hW8⟩ : ∃ W8, 8 * wb = W8 := ⟨_, rfl⟩
  obtain ⟨S16, hS16⟩ : ∃ S16, 16 * wb = S16 := ⟨_, rfl⟩
  rw [hW8, hS16] at HKI
  rw [hS16, hW8] at hm
  rw [hS16, hW8]
  have HFB := Lib.hid (show ∀ u ≤ wb, ∀ q, be ((L.drop q).take u) < 256 ^ u from fun u hu q => by
    have h1 := be_lt ((L.drop q).take u) (fun x hx => HB.out.1.2.2.1 x (List.mem_of_mem_drop (List.mem_of_mem_take hx)))
    exact Nat.lt_of_lt_of_le h1 (Nat.pow_le_pow_right (by decide) (List.length_take_le _ _)))
  have hS0 : S16 ≠ 0 := by omega
  have hS128 : S16 ≤ 128 := by omega
  have hW64 : W8 ≤ 64 := by omega
  have HW8 := Lib.hid hW8
  have HS16 := Lib.hid hS16
  have HM := Lib.hid hm
  have hrm : W8 + 9 ≤ m := by omega
  clear hW8 hS16 hm hk hwbe hW
  go_enter Tryd.func25, Tryd.ntmps25
  go_wp2_with fail
  refine (HKI.out _).mono ?_
  rintro e w' ⟨rfl, rfl⟩
  go_wp2_with fail
  go_loop [9, 10] (fun v i => ∃ t : Nat, t ≤ 8 ∧ i = .int .i64 (t + 1 : Nat) ∧ v = .int .u64 (be ((L.drop 1).take t) : Nat)) (fun _ i => 9 - (intOf i).toNat)
  case atStart => exact ⟨0, by omega, rfl, rfl⟩
  case round =>
    obtain ⟨t, ht, rfl, rfl⟩ := hrel
    by_cases hlt : t < 8
    · have hcell := HC.out (t + 1) (by omega)
      have hx := getD_lt HB.out.1.2.2.1 (t + 1)
      have hmm : be ((L.drop 1).take t) < 2 ^ 56 := by
        refine Nat.lt_of_lt_of_le (be_lt _ (fun x hx => HB.out.1.2.2.1 x (List.mem_of_mem_drop (List.mem_of_mem_take hx)))) ?_
        have h1 : ((L.drop 1).take t).length ≤ 7 := Nat.le_trans (List.length_take_le _ _) (by omega)
        exact Nat.le_trans (Nat.pow_le_pow_right (by decide) h1) (by decide)
      have hst := be_append ((L.drop 1).take t) ((L.drop 1).getD t 0)
      rw [← take_snoc (L.drop 1) t (by rw [List.length_drop]; have := HB.out.1.1; omega)] at hst
      have hgd : (L.drop 1).getD t 0 = L.getD (t + 1) 0 := by simp [List.getD_eq_getElem?_getD, Nat.add_comm]
      rw [hgd] at hst
      have HST := Lib.hid hst
      clear hst hgd
      generalize be ((L.drop 1).take t) = mm at *
      generalize L.getD (t + 1) 0 = x at *
      have hstep := num_sum mm x hmm hx
      have hstep2 : (mm : Int) * 256 + (x : Int) = ((mm * 256 + x : Nat) : Int) := by omega
      rw [← HST.out] at hstep hstep2
      have ht1 : ((t + 1 : Nat) : Int) < 9 := by omega
      have ht1m : t + 1 < m := by omega
      clear hmm
      obtain ⟨t1, ht1e⟩ : ∃ t1, t + 1 = t1 := ⟨_, rfl⟩
      rw [ht1e] at hcell ht1 ht1m ⊢
      go_wp2_with fail
      go_round
      case rel => exact ⟨t + 1, by omega, by rw [ht1e]; go_num, by rw [← ht1e, List.drop_one]⟩
      case measure => simp [intOf]; omega
    · obtain rfl : t = 8 := by omega
      rw [HLN.out, show ((8 + 1 : Nat) : Int) = 9 from rfl]
      have HM' := HM.out
      obtain ⟨r, hr⟩ : ∃ r, n % S16 = r := ⟨_, rfl⟩
      have hr2 : r < 128 := by rw [← hr]; exact Nat.lt_of_lt_of_le (Nat.mod_lt _ (by omega)) hS128
      have hrn : r ≤ n := by rw [← hr]; exact Nat.mod_le _ _
      have er : (n : Int) % (S16 : Int) = (r : Int) := by rw [← hr]; exact (Int.natCast_emod _ _).symm
      have er' : (n : Int).tmod (S16 : Int) = (r : Int) := by rw [← er]; exact Int.tmod_eq_emod_of_nonneg (by omega)
      have hS0I : ¬ (S16 : Int) = 0 := by omega
      rw [hr] at HM' ⊢
      have HM2 := Lib.hid HM'
      have q3 : decide ((2305843009213693952 : Int) ≤ (n : Int)) = false := by simp; omega
      have hne1 : ((m : Int) != 9 + (W8 : Int) + (r : Int)) = false := by rw [bne_eq_false_iff_eq]; omega
      have hne2 : ((m : Int) == 9 + (W8 : Int) + (r : Int)) = true := by rw [beq_iff_eq]; omega
      have HRX := Lib.hid hr
      clear HM' hr
      obtain ⟨nr, hnr⟩ : ∃ nr, n - r = nr := ⟨_, rfl⟩
      have esub : (n : Int) - (r : Int) = (nr : Int) := by omega
      have HNR := Lib.hid (show n - n % S16 = nr by rw [HRX.out]; exact hnr)
      rw [hnr]
      have HBD := Lib.hid (built69r k nr)
      have hnr64 : nr ≤ 2305843009213693951 := by omega
      clear hnr
      go_wp2_with (refine wpList_build_is rfl 69 _ rfl (rhV k (zeros 8) nr (.slice none 0 0)).toArray ?hb ?_)
      case hb => exact HBD.out
      obtain ⟨W1, hW1⟩ : ∃ W1 : World, w.alloc (.cells (rhV k (zeros 8) nr (.slice none 0 0)).toArray 69) = W1 := ⟨_, rfl⟩
      go_upto_region 14 with (fail)
      have BLK := Lib.hid (show Blk W1 w.heap.size 69 (rhV k (zeros 8) nr (.slice none 0 0)) by rw [← hW1]; exact Blk.new w 69 _)
      have hbel : Below w.heap.size w W1 := by rw [← hW1]; exact (Below.refl _ w).alloc (Nat.le_refl _) _
      have ewb : (W8 : Int) / 8 = (wb : Int) := by have := HW8.out; omega
      have ewb' : (W8 : Int).tdiv 8 = (wb : Int) := by rw [← ewb]; exact Int.tdiv_eq_ediv_of_nonneg (by omega)
      rw [hW1]
      clear hW1 q1 q2 q3 hne1 hne2 esub er er'
      go_loopw [14] (fun i wr => ∃ t : Nat, t ≤ 8 ∧ i = .int .i64 t ∧ Blk wr w.heap.size 69 (rhV k (tell (stW k L) t ++ zeros (8 - t)) nr (.slice none 0 0)) ∧ Below w.heap.size w wr) (fun i _ => 8 - (intOf i).toNat)
      case atStart => exact ⟨0, by omega, rfl, BLK.out, hbel⟩
      case round =>
        clear hbel BLK
        obtain ⟨t, ht, rfl, k1, hbel⟩ := hrel
        have K1 := Lib.hid k1
        have HBE := Lib.hid hbel
        clear k1 hbel
        by_cases h8 : t < 8
        · have hp : 9 + t * wb + wb ≤ m := by
            have : t * wb + wb ≤ 8 * wb := by rw [← Nat.succ_mul]; exact Nat.mul_le_mul_right _ h8
            have := HW8.out
            omega
          have hlen8 : t < (tell (stW k L) t ++ zeros (8 - t)).length := by simp [tell_length, zeros]; omega
          have HFILL := Lib.hid (fill_tell (stW k L) 8 t h8)
          have HNO := Lib.hid (set_nought (stW k L) t h8)
          have HV := Lib.hid (show be ((L.drop (9 + t * wb)).take wb) = stW k L t from by rw [HSTW.out])
          have hlenA : (tell (stW k L) t ++ zeros (8 - t)).length = 8 := by simp [tell_length, zeros]; omega
          have e1' : (t : Int) * (wb : Int) = ((t * wb : Nat) : Int) := (Int.natCast_mul _ _).symm
          obtain ⟨SL, hSL⟩ : ∃ SL, tell (stW k L) t ++ zeros (8 - t) = SL := ⟨_, rfl⟩
          rw [hSL] at K1 hlen8 HFILL HNO hlenA
          have HSL := Lib.hid hSL
          clear hSL
          obtain ⟨pp, hpp⟩ : ∃ pp, t * wb = pp := ⟨_, rfl⟩
          rw [hpp] at hp HV e1'
          clear hpp
          have ht8 : (t : Int) < 8 := by omega
          go_wp2_with fail
          go_loopw [15] (fun j wr2 => ∃ u : Nat, u ≤ wb ∧ j = .int .i64 u ∧ Blk wr2 w.heap.size 69 (rhV k (SL.set t (be ((L.drop (9 + pp)).take u))) nr (.slice none 0 0)) ∧ Below w.heap.size w wr2) (fun j _ => wb - (intOf j).toNat)
          case atStart => exact ⟨0, by omega, rfl, by have := K1.out; rw [show be ((L.drop (9 + pp)).take 0) = 0 from rfl, HNO.out]; exact this, HBE.out⟩
          case round =>
            clear K1 HBE
            obtain ⟨u, hu, rfl, k2, hbel2⟩ := hrel
            have K2 := Lib.hid k2
            have HBE2 := Lib.hid hbel2
            clear k2 hbel2
            by_cases hw : u < wb
            · have hcw := rh_word K2.out t (by rw [List.length_set]; exact hlen8)
              rw [set_getD _ _ _ hlen8] at hcw
              have hcb0 := HC.out (9 + pp + u) (by omega)
              have hcb := (HBE2.out.cell (World.block_lt_of_cell? w _ hcb0)).trans hcb0
              have hx := getD_lt HB.out.1.2.2.1 (9 + pp + u)
              have hmm : be ((L.drop (9 + pp)).take u) < 2 ^ 56 := Nat.lt_of_lt_of_le (HFB.out u (by omega) (9 + pp)) (Nat.le_trans (Nat.pow_le_pow_right (by decide) (show u ≤ 7 by omega)) (by decide))
              have hst := be_append ((L.drop (9 + pp)).take u) ((L.drop (9 + pp)).getD u 0)
              rw [← take_snoc (L.drop (9 + pp)) u (by rw [List.length_drop, HB.out.1.1]; omega)] at hst
              have hgd : (L.drop (9 + pp)).getD u 0 = L.getD (9 + pp + u) 0 := by simp [List.getD_eq_getElem?_getD]
              rw [hgd] at hst
              have hfree := K2.out.free (1 + t)
              have HK3 := Lib.hid (rh_setWord (i := t) (x := be ((L.drop (9 + pp)).take (u + 1))) K2.out (by rw [List.length_set]; exact hlen8))
              rw [List.set_set] at HK3
              have hb3 := HBE2.out.setCell (p := ⟨w.heap.size, 1 + t, none⟩) (Nat.le_refl _) (.int .u64 (be ((L.drop (9 + pp)).take (u + 1)) : Nat))
              rw [hst] at HK3 hb3
              have HST := Lib.hid hst
              have HB3 := Lib.hid hb3
              clear hgd hcb0 hst hb3
              generalize be ((L.drop (9 + pp)).take u) = mm at *
              generalize L.getD (9 + pp + u) 0 = x at *
              have hstep := num_sum mm x hmm hx
              have hstep2 : (mm : Int) * 256 + (x : Int) = ((mm * 256 + x : Nat) : Int) := by omega
              obtain ⟨y, hy⟩ : ∃ y, mm * 256 + x = y := ⟨_, rfl⟩
              rw [hy] at hstep hstep2 HK3 HB3 HST
              obtain ⟨qq, hqq⟩ : ∃ qq, 9 + pp = qq := ⟨_, rfl⟩
              obtain ⟨zz, hzz⟩ : ∃ zz, qq + u = zz := ⟨_, rfl⟩
              rw [hqq, hzz] at hcb
              have e1 : IntKind.i64.wrap (pp : Int) = (pp : Int) := IntWalk.i64_in _ (by omega)
              have e2 : IntKind.i64.wrap (qq : Int) = (qq : Int) := IntWalk.i64_in _ (by omega)
              have e2' : 9 + (pp : Int) = (qq : Int) := by omega
              have e3 : IntKind.i64.wrap (zz : Int) = (zz : Int) := IntWalk.i64_in _ (by omega)
              have e3' : (qq : Int) + (u : Int) = (zz : Int) := by omega
              have hzm : zz < m := by omega
              have hui : (u : Int) < (wb : Int) := by omega
              clear hmm hy hqq hzz
              go_wp2_with fail
              go_region
              all_goals
                go_wp2_with fail
                go_roundw
                case rel => exact ⟨u + 1, by omega, by go_num, by rw [HST.out]; exact HK3.out, by first | exact HB3.out | exact HB3.out.drew⟩
                case measure => simp [intOf]; omega
            · obtain rfl : u = wb := by omega
              have K3 := Lib.hid (show Blk wr w.heap.size 69 (rhV k (tell (stW k L) (t + 1) ++ zeros (8 - (t + 1))) nr (.slice none 0 0)) by have := K2.out; rw [HV.out, HFILL.out] at this; exact this)
              go_wp2_with fail
              go_roundw
              case rel => exact ⟨t + 1, by omega, by go_num, K3.out, HBE2.out⟩
              case measure => simp [intOf]; omega
        · obtain rfl : t = 8 := by omega
          rw [show ((8 : Nat) : Int) = 8 from rfl]
          have K8 := Lib.hid (show Blk wr w.heap.size 69 (rhV k (tell (stW k L) 8) nr (.slice none 0 0)) from by have := K1.out; simpa [zeros] using this)
          obtain ⟨q9, hq9⟩ : ∃ q9, 9 + W8 = q9 := ⟨_, rfl⟩
          rw [hq9]
          have hTl : (L.drop q9).length = m - q9 := by rw [List.length_drop, HB.out.1.1]
          have hTb : ∀ x ∈ L.drop q9, x < 256 := fun x hx => HB.out.1.2.2.1 x (List.mem_of_mem_drop hx)
          have HSRC := Lib.hid (show ∀ A, A = some (⟨b, off, none⟩ : Addr) ∧ m - q9 = 0 ∨ A = some ⟨b, off + q9, none⟩ → BIn wr A (m - q9) (c - q9) (L.drop q9) from fun A hA => bin_drop (HB.out.below HBE.out) (by omega) (by omega) A hA)
          have HO := Lib.hid (show wr.drew.ownsRow (w.heap.size + 1) 5 1 (.slice none 0 0) 0 (bytesV []) from World.ownsRow_nil _ _ _ _)
          have hl10 := rh_l K8.out (tell_length _ _)
          have HFIN := Lib.hid (show ∀ (v' : Value) (w' : World), w'.ownsRow (w.heap.size + 1) 5 1 v' (0 + (m - q9)) (bytesV ([] ++ L.drop q9)) → wr.drew.grownBy w' (Value.slice none 0 0).ownBlock → (∃ a2 cp2, v' = .slice a2 (m - q9) cp2) ∧ Blk w' w.heap.size 69 (rhV k (tell (stW k L) 8) nr (.slice none 0 0)) ∧ RefAt (w'.setCell ⟨w.heap.size, 10, none⟩ v') w.heap.size (w.heap.size + 1) k (tell (stW k L) 8) nr (L.drop q9) ∧ Below w.heap.size w (w'.setCell ⟨w.heap.size, 10, none⟩ v') from fun v' w' h1 h2 => by
            rw [Nat.zero_add, List.nil_append] at h1
            have hblk2 : Blk w' w.heap.size 69 (rhV k (tell (stW k L) 8) nr (.slice none 0 0)) := K8.out.drew.grown h2 (by intro e; cases e)
            have hbe2 := (HBE.out.drew).grown h2 HBE.out.drew.size (fun j hj => by cases hj)
            have hne2 : v'.ownBlock = none ∨ v'.ownBlock ≠ some w.heap.size := by
              cases hv : v'.ownBlock with
              | none => exact .inl rfl
              | some G => exact .inr (fun e => by injection e with e; have := (h1.lt G hv).1; omega)
            have hlt := hblk2.lt
            refine ⟨?_, hblk2, ⟨HKK.out, tell_length _ _, tell_lt _ _ HSTL.out _, hTb, Nat.lt_succ_self _, by simp; omega, v', rh_setL hblk2 (tell_length _ _) v', ?_⟩, hbe2.setCell (p := ⟨w.heap.size, 10, none⟩) (Nat.le_refl _) v'⟩
            · obtain ⟨a2, cp2, he2, _, _⟩ := own_in h1 hTb (by omega)
              exact ⟨a2, cp2, he2⟩
            · rw [hTl]; exact h1.kept (grown_setCell w' ⟨w.heap.size, 10, none⟩ v') hne2)
          have hsz : w.heap.size + 1 ≤ wr.drew.heap.size := K8.out.lt
          have hbI : (q9 : Int) ≤ (m : Int) := by omega
          have hb0 : (0 : Int) ≤ (q9 : Int) := by omega
          have HTO := Lib.hid (show (q9 : Int).toNat = q9 from by omega)
          have ew1 : IntKind.i64.wrap (W8 : Int) = (W8 : Int) := IntWalk.i64_in _ (by omega)
          have ew2 : IntKind.i64.wrap (9 + (W8 : Int)) = (q9 : Int) := by rw [show (9 : Int) + (W8 : Int) = (q9 : Int) from by omega]; exact IntWalk.i64_in _ (by omega)
          have h47 : 0 + (m - q9) ≤ 140737488355328 := by omega
          clear K1 HBE hTb
          by_cases hcc : c = q9
          · have HS3 := Lib.hid (show BIn wr.drew (some ⟨b, off, none⟩) (m - q9) (c - q9) (L.drop q9) from (HSRC.out _ (.inl ⟨rfl, by omega⟩)).below (Below.refl wr.heap.size wr).drew)
            have HCC := Lib.hid hcc
            clear hcc
            go_wp2_with fail
            go_region_law (refine step_append_bytes rfl (.tmp 117) (.tmp 122) rfl (w.heap.size + 1) (.slice none 0 0) 0 [] (by simp [Act.eval, Act.put]) HO.out b (off) (m - q9) (c - q9) (L.drop q9) (by simp [Act.eval, Act.put, HTO.out, HCC.out]) HS3.out h47 hsz ?_; intro v' w' h1 h2; obtain ⟨⟨a2, cp2, rfl⟩, hk4, hr4, hb4⟩ := HFIN.out v' w' h1 h2; have hf4 := hk4.free 10; have hc4 := rh_l hk4 (tell_length _ _); have HR4 := Lib.hid hr4; have HB4 := Lib.hid hb4; clear h1 h2 hr4 hb4)
            all_goals
              go_wp2_with fail
              go_ret2
              exact ⟨w.heap.size, rfl, Nat.le_refl _, by first | exact HR4.out | (rw [HNR.out]; exact HR4.out), HB4.out⟩
          · have HS3 := Lib.hid (show BIn wr.drew (some ⟨b, off + q9, none⟩) (m - q9) (c - q9) (L.drop q9) from (HSRC.out _ (.inr rfl)).below (Below.refl wr.heap.size wr).drew)
            have HCC := Lib.hid hcc
            clear hcc
            go_wp2_with fail
            go_region_law (refine step_append_bytes rfl (.tmp 117) (.tmp 122) rfl (w.heap.size + 1) (.slice none 0 0) 0 [] (by simp [Act.eval, Act.put]) HO.out b (off + q9) (m - q9) (c - q9) (L.drop q9) (by simp [Act.eval, Act.put, HTO.out, HCC.out]) HS3.out h47 hsz ?_; intro v' w' h1 h2; obtain ⟨⟨a2, cp2, rfl⟩, hk4, hr4, hb4⟩ := HFIN.out v' w' h1 h2; have hf4 := hk4.free 10; have hc4 := rh_l hk4 (tell_length _ _); have HR4 := Lib.hid hr4; have HB4 := Lib.hid hb4; clear h1 h2 hr4 hb4)
            all_goals
              go_wp2_with fail
              go_ret2
              exact ⟨w.heap.size, rfl, Nat.le_refl _, by first | exact HR4.out | (rw [HNR.out]; exact HR4.out), HB4.out⟩
end Go.Proofs.YtnikhnpigopihaaDoor
