/- The document's rest of a number of any length. Condition: the divisor is not 0. -/
import Derived.Test.YtfaoajljaggklaaTw
import Derived.Test.YtfaoajljaggklaaBm
import Derived.Test.YtfaoajljaggklaaBt
import Derived.Test.YtfaoajljaggklaaH
import Derived.Test.YtfaoajljaggklaaSu
import Derived.Test.YtfaoajljaggklaaKf
namespace Go.Proofs.Ytfaoajljaggklaa
open Go.RowKit
set_option linter.unusedVariables false
set_option linter.unusedSimpArgs false
/-- the rest by the bits above s -/
def rdX (m V s : Nat) : Nat := V / 2 ^ s % m
theorem rdX_step (m V s : Nat) : twR (rdX m V (s + 1)) (V / 2 ^ s % 2) m = rdX m V s := by
  unfold twR rdX
  have e : V / 2 ^ s = 2 * (V / 2 ^ (s + 1)) + V / 2 ^ s % 2 := bit_split' V s
  conv => rhs; rw [e]
  rw [Nat.add_mod, Nat.mul_mod, Nat.mod_mod, ← Nat.mul_mod, ← Nat.add_mod]
theorem byte_bit (V p q : Nat) (hq : q < 8) : dgt 256 V p / 2 ^ q % 2 = V / 2 ^ (8 * p + q) % 2 := by
  unfold dgt
  rw [show (256 : Nat) ^ p = 2 ^ (8 * p) by rw [show (256 : Nat) = 2 ^ 8 from rfl, ← Nat.pow_mul], Nat.pow_add, ← Nat.div_div_eq_div_mul]
  generalize V / 2 ^ (8 * p) = z
  rcases q with _ | _ | _ | _ | _ | _ | _ | _ | q
  all_goals first | (exfalso; omega) | (simp only [Nat.reduceAdd, Nat.reducePow]; omega)
theorem keepB {w w' : World} {g1 g2 : Nat} {a b : List Value} {p : Addr} {v : Value} (hb : Below w.heap.size w w') (h : w.rangeAt g1 0 a ∧ w.rangeAt g2 0 b ∧ w.cell? p = some v) : w'.rangeAt g1 0 a ∧ w'.rangeAt g2 0 b ∧ w'.cell? p = some v :=
  ⟨range_keepF h.1 hb, range_keepF h.2.1 hb, (hb.cell (World.block_lt_of_cell? _ _ h.2.2)).trans h.2.2⟩
theorem row_byte {w : World} {A : Option Addr} {n : Nat} {l : List Nat} (h : ByteRow w A n l) (i : Nat) (hi : i < n) : ∃ b off, A = some ⟨b, off, none⟩ ∧ ∀ j, j < n → w.cell? ⟨b, off + j, none⟩ = some (.int .u8 (l.getD j 0 : Nat)) := by
  obtain ⟨h1, h2, h3, h4⟩ := h
  rcases h4 with h4 | ⟨b, off, rfl, hc⟩
  · omega
  · exact ⟨b, off, rfl, hc⟩
set_option maxRecDepth 100000 in
set_option maxHeartbeats 1600000 in
theorem dReduce_any (A : Option Addr) (n c m : Nat) (l : List Nat) (w : World) (h : BIn w A n c l) (hm : m < 2 ^ 256) (h0 : 0 < m) :
    Calls Try.prog 17 #[.slice A n c, .agg (natsV .u64 (wds 4 m)).toArray] w fun e w' => e = .returned (.agg (natsV .u64 (wds 4 (be l % m))).toArray) ∧ Below w.heap.size w w' := by
  have HIN := Lib.hid h
  have hlen := h.1.1
  have hlt := h.1.2.2.1
  have hn47 := h.2.2.2.1
  clear h
  have hend : be l % m = rdX m (be l) 0 := by unfold rdX; simp
  have htop : rdX m (be l) (8 * n) = 0 := by
    unfold rdX
    have := be_lt l hlt
    rw [hlen, show (256 : Nat) = 2 ^ 8 from rfl, ← Nat.pow_mul] at this
    rw [Nat.div_eq_of_lt this, Nat.zero_mod]
  rw [hend]
  have HT := Lib.hid (fun s w => twice_any (rdX m (be l) (s + 1)) (be l / 2 ^ s % 2) m w (Nat.mod_lt _ h0) (by omega) hm)
  have HTE := Lib.hid (fun s => rdX_step m (be l) s)
  have HBY := Lib.hid (fun i (hi : i < n) => be_dgt l hlt i (by rw [hlen]; exact hi))
  rw [hlen] at HBY
  have HBB := Lib.hid (fun p q (hq : q < 8) => byte_bit (be l) p q hq)
  have HLT := Lib.hid (fun i (hi : i < n) => show l.getD i 0 < 256 from getD_lt' hlt (by decide) i)
  obtain ⟨X, hX⟩ : ∃ X : Nat → Nat, X = rdX m (be l) := ⟨_, rfl⟩
  have HT2 := Lib.hid (fun s w => show Calls Try.prog 48 #[.agg (natsV .u64 (wds 4 (X (s + 1)))).toArray, .int .i64 ((be l / 2 ^ s % 2 : Nat) : Int), .agg (natsV .u64 (wds 4 m)).toArray] w fun e w' => e = .returned (.tuple #[.agg (natsV .u64 (wds 4 (X s))).toArray, .bool (decide (m ≤ 2 * X (s + 1) + be l / 2 ^ s % 2))]) ∧ Below w.heap.size w w' from by rw [hX, ← HTE.out s]; exact HT.out s w)
  rw [← hX] at htop ⊢
  clear HT HTE hX hend
  have LM := Lib.hid (wds_len 4 m)
  have LX := Lib.hid (fun s => wds_len 4 (X s))
  have HX0 := Lib.hid (show wds 4 (X (8 * n)) = zeros 4 by rw [htop]; exact num_zero)
  clear htop hlen hlt
  obtain ⟨lm, hlm⟩ : ∃ l, l = wds 4 m := ⟨_, rfl⟩
  rw [← hlm] at HT2 LM ⊢
  clear hlm hm h0
  generalize be l = V at *
  have u24 := Try.underlying24
  have i24m : (Try.prog.info? 24).map (·.size) = some (natsV .u64 lm).length := by rw [info24, natsV_length, LM.out]
  have B1 := Lib.hid (((Blk.new w 24 (natsV .u64 lm)).alloc (.cells (natsV .u64 (zeros 4)).toArray 24)).alloc (.cells (natsV .u64 (zeros 4)).toArray 24))
  have B2 := Lib.hid ((Blk.new2 w (.cells (natsV .u64 lm).toArray 24) 24 (natsV .u64 (zeros 4))).alloc (.cells (natsV .u64 (zeros 4)).toArray 24))
  have B3 := Lib.hid (Blk.new3 w (.cells (natsV .u64 lm).toArray 24) (.cells (natsV .u64 (zeros 4)).toArray 24) 24 (natsV .u64 (zeros 4)))
  have BEL := Lib.hid ((((Below.refl w.heap.size w).alloc (Nat.le_refl _) (.cells (natsV .u64 lm).toArray 24)).alloc (by simp) (.cells (natsV .u64 (zeros 4)).toArray 24)).alloc (by simp; omega) (.cells (natsV .u64 (zeros 4)).toArray 24))
  go_enter Try.func17, Try.ntmps17
  go_wp2_with fail
  go_loopw [6] (fun i wr => ∃ t : Nat, t ≤ n ∧ i = .int .i64 t ∧ Blk wr w.heap.size 24 (natsV .u64 lm) ∧ Blk wr (w.heap.size + 1) 24 (natsV .u64 (zeros 4)) ∧ Blk wr (w.heap.size + 1 + 1) 24 (natsV .u64 (wds 4 (X (8 * (n - t))))) ∧ Below w.heap.size w wr) (fun i _ => n - (intOf i).toNat)
  case atStart => exact ⟨0, by omega, rfl, B1.out, B2.out, by rw [show 8 * (n - 0) = 8 * n by omega, HX0.out]; exact B3.out, BEL.out⟩
  case round =>
    clear B1 B2 B3 BEL HX0
    obtain ⟨t, ht, rfl, k1, k2, k3, hbel⟩ := hrel
    have K1 := Lib.hid k1
    have K2 := Lib.hid k2
    have K3 := Lib.hid k3
    clear k1 k2 k3
    by_cases h5 : t < n
    · have hti : (t : Int) < (n : Int) := by omega
      obtain ⟨b, off, rfl, hcell⟩ := row_byte HIN.out.1 t h5
      have cb0 := hcell t h5
      clear hcell
      have hx := HLT.out t h5
      have hby := HBY.out t h5
      go_wp2_with fail
      go_loopw [7] (fun bb wr => ∃ j : Nat, j ≤ 8 ∧ bb = .int .u8 ((2 ^ j / 2 : Nat) : Int) ∧ Blk wr w.heap.size 24 (natsV .u64 lm) ∧ Blk wr (w.heap.size + 1) 24 (natsV .u64 (zeros 4)) ∧ Blk wr (w.heap.size + 1 + 1) 24 (natsV .u64 (wds 4 (X (8 * (n - 1 - t) + j)))) ∧ Below w.heap.size w wr) (fun bb _ => (intOf bb).toNat)
      case atStart => exact ⟨8, by omega, by first | rfl | decide, K1.out, K2.out, by rw [show 8 * (n - 1 - t) + 8 = 8 * (n - t) by omega]; exact K3.out, hbel⟩
      case round =>
        clear K1 K2 K3 hbel
        obtain ⟨j, hj, rfl, k1, k2, k3, hbel⟩ := hrel
        have K1 := Lib.hid k1
        have K2 := Lib.hid k2
        have K3 := Lib.hid k3
        clear k1 k2 k3
        rcases j with _ | j
        · as_aux_lemma =>
          rw [show ((2 ^ 0 / 2 : Nat) : Int) = 0 from rfl]
          go_wp2_with fail
          go_roundw
          case rel => exact ⟨t + 1, by omega, by go_num, K1.out, K2.out, by rw [show 8 * (n - (t + 1)) = 8 * (n - 1 - t) + 0 by omega]; exact K3.out, hbel⟩
          case measure => simp [intOf] <;> omega
        · as_aux_lemma =>
          have hj8 : j < 8 := by omega
          have hp : 2 ^ (j + 1) / 2 = 2 ^ j := by rw [Nat.pow_succ, Nat.mul_div_cancel _ (by decide)]
          rw [hp]
          have hpl : 2 ^ j < 256 := Nat.pow_lt_pow_right (m := j) (n := 8) (by decide) hj8
          have hpp : 0 < 2 ^ j := Nat.two_pow_pos j
          have hbit := HBB.out (n - 1 - t) j hj8
          rw [hby] at hbit
          have HC := Lib.hid (HT2.out (8 * (n - 1 - t) + j))
          rw [← hbit] at HC
          have hL1 := LX.out (8 * (n - 1 - t) + (j + 1))
          have hLs := LX.out (8 * (n - 1 - t) + j)
          have hdlt : 2 ^ j / 2 < 2 ^ j := Nat.div_lt_self hpp (by decide)
          rw [show 8 * (n - 1 - t) + (j + 1) = 8 * (n - 1 - t) + j + 1 by omega] at K3 hL1
          have cb := (hbel.cell (p := ⟨b, off + t, none⟩) (World.block_lt_of_cell? _ _ cb0)).trans cb0
          obtain ⟨l1, hl1⟩ : ∃ l, l = wds 4 (X (8 * (n - 1 - t) + j + 1)) := ⟨_, rfl⟩
          rw [← hl1] at HC K3 hL1
          obtain ⟨ls, hls⟩ : ∃ l, l = wds 4 (X (8 * (n - 1 - t) + j)) := ⟨_, rfl⟩
          rw [← hls] at HC hLs
          have HLS := Lib.hid hls
          clear hl1 hls HT2 HBB HBY HLT LX hby hbit
          generalize decide (m ≤ _) = dd at *
          generalize l.getD t 0 = x at *
          obtain ⟨hf, hhf⟩ : ∃ z, z = 2 ^ j / 2 := ⟨_, rfl⟩
          rw [← hhf] at hdlt
          have HHF := Lib.hid hhf
          have hhalf : ((2 ^ j : Nat) : Int) / 2 = (hf : Int) := by rw [hhf]; rfl
          clear hhf
          obtain ⟨p, hp2⟩ : ∃ p, p = 2 ^ j := ⟨_, rfl⟩
          rw [← hp2] at hpl hpp hdlt hhalf HC ⊢
          clear hp2 hp
          obtain ⟨q, hq⟩ : ∃ q, q = x / p := ⟨_, rfl⟩
          have hq256 : q < 256 := by rw [hq]; exact Nat.lt_of_le_of_lt (Nat.div_le_self _ _) hx
          have eq1 : (x : Int) / (p : Int) = (q : Int) := by rw [hq]; rfl
          rw [← hq] at HC
          clear hq
          obtain ⟨bt, hbt⟩ : ∃ z, z = q % 2 := ⟨_, rfl⟩
          rw [← hbt] at HC
          have eq2 : (q : Int) % 2 = (bt : Int) := by omega
          have eq3 : ((q : Int)).tmod 2 = (bt : Int) := by rw [Int.tmod_eq_emod_of_nonneg (by omega)]; omega
          have hbt1 : bt ≤ 1 := by omega
          have hpz : (0 : Int) < (p : Int) := by omega
          have hpne : ¬ ((p : Int) = 0) := by omega
          have hpn0 : ¬ (p = 0) := by omega
          have ewq : IntKind.u8.wrap (q : Int) = (q : Int) := by rw [IntKind.wrap_u8]; omega
          have ewb : IntKind.u8.wrap (bt : Int) = (bt : Int) := by rw [IntKind.wrap_u8]; omega
          have ewi : IntKind.i64.wrap (bt : Int) = (bt : Int) := IntWalk.i64_in _ (by omega)
          have ewh : IntKind.u8.wrap (hf : Int) = (hf : Int) := by rw [IntKind.wrap_u8]; omega
          have i241 : (Try.prog.info? 24).map (·.size) = some (natsV .u64 l1).length := by rw [info24, natsV_length, hL1]
          clear hbt
          go_wp2_with fail
          refine wp_region_held_drew (S := (fun w' => w'.rangeAt (w.heap.size + 1 + 1) 0 (natsV .u64 l1) ∧ w'.rangeAt w.heap.size 0 (natsV .u64 lm) ∧ w'.cell? ⟨b, off + t, none⟩ = some (.int .u8 (x : Nat)))) (by kernel_rfl) ⟨blk_rangeV K3.out.drew, blk_rangeV K1.out.drew, cb⟩ (fun hHeld => ?_)
          refine wpAnyH_take (i := 0) (oi := _) (v := _) rfl (by kernel_rfl) (by kernel_rfl) (by kernel_rfl) (fun _ _ _ h => h) (yieldsIf_load_mid (by rfl) _ _ rfl _ _ rfl _ _ (by intro w hSw; exact hSw.1) Try.underlying24 rfl i241) hHeld ?_
          try simp only [Act.put, List.getElem_toArray, List.getElem_cons_succ, List.getElem_cons_zero, List.setIfInBounds_toArray, List.set_cons_zero, List.set_cons_succ]
          refine wpAnyH_take (i := 1) (oi := _) (v := _) rfl (by kernel_rfl) (by kernel_rfl) (by kernel_rfl) (fun _ _ _ h => h) (Or.inl ⟨by rfl, by intro w hSw; (try dsimp only at hSw); go_simp; first | done | with_reducible rfl⟩) hHeld ?_
          try simp only [Act.put, List.getElem_toArray, List.getElem_cons_succ, List.getElem_cons_zero, List.setIfInBounds_toArray, List.set_cons_zero, List.set_cons_succ]
          refine wpAnyH_take (i := 2) (oi := _) (v := _) rfl (by kernel_rfl) (by kernel_rfl) (by kernel_rfl) (fun _ _ _ h => h) (Or.inl ⟨by rfl, by intro w hSw; (try dsimp only at hSw); go_simp; first | done | with_reducible rfl⟩) hHeld ?_
          try simp only [Act.put, List.getElem_toArray, List.getElem_cons_succ, List.getElem_cons_zero, List.setIfInBounds_toArray, List.set_cons_zero, List.set_cons_succ]
          refine wpAnyH_take (i := 3) (oi := _) (v := _) rfl (by kernel_rfl) (by kernel_rfl) (by kernel_rfl) (fun _ _ _ h => h) (Or.inl ⟨by rfl, by intro w hSw; (try dsimp only at hSw); go_simp; first | done | with_reducible rfl⟩) hHeld ?_
          try simp only [Act.put, List.getElem_toArray, List.getElem_cons_succ, List.getElem_cons_zero, List.setIfInBounds_toArray, List.set_cons_zero, List.set_cons_succ]
          refine wpAnyH_take (i := 4) (oi := _) (v := _) rfl (by kernel_rfl) (by kernel_rfl) (by kernel_rfl) (fun _ _ _ h => h) (Or.inl ⟨by rfl, by intro w hSw; (try dsimp only at hSw); go_simp; first | done | with_reducible rfl⟩) hHeld ?_
          try simp only [Act.put, List.getElem_toArray, List.getElem_cons_succ, List.getElem_cons_zero, List.setIfInBounds_toArray, List.set_cons_zero, List.set_cons_succ]
          refine wpAnyH_take (i := 5) (oi := _) (v := _) rfl (by kernel_rfl) (by kernel_rfl) (by kernel_rfl) (fun _ _ _ h => h) (Or.inl ⟨by rfl, by intro w hSw; (try dsimp only at hSw); go_simp; first | done | with_reducible rfl⟩) hHeld ?_
          try simp only [Act.put, List.getElem_toArray, List.getElem_cons_succ, List.getElem_cons_zero, List.setIfInBounds_toArray, List.set_cons_zero, List.set_cons_succ]
          refine wpAnyH_take (i := 6) (oi := _) (v := _) rfl (by kernel_rfl) (by kernel_rfl) (by kernel_rfl) (fun _ _ _ h => h) (Or.inl ⟨by rfl, by intro w hSw; (try dsimp only at hSw); go_simp; first | done | with_reducible rfl⟩) hHeld ?_
          try simp only [Act.put, List.getElem_toArray, List.getElem_cons_succ, List.getElem_cons_zero, List.setIfInBounds_toArray, List.set_cons_zero, List.set_cons_succ]
          refine wpAnyH_take (i := 7) (oi := _) (v := _) rfl (by kernel_rfl) (by kernel_rfl) (by kernel_rfl) (fun _ _ _ h => h) (Or.inl ⟨by rfl, by intro w hSw; (try dsimp only at hSw); go_simp; first | done | with_reducible rfl⟩) hHeld ?_
          try simp only [Act.put, List.getElem_toArray, List.getElem_cons_succ, List.getElem_cons_zero, List.setIfInBounds_toArray, List.set_cons_zero, List.set_cons_succ]
          refine wpAnyH_take (i := 8) (oi := _) (v := _) rfl (by kernel_rfl) (by kernel_rfl) (by kernel_rfl) (fun _ _ _ h => h) (Or.inl ⟨by rfl, by intro w hSw; (try dsimp only at hSw); go_simp; first | done | with_reducible rfl⟩) hHeld ?_
          try simp only [Act.put, List.getElem_toArray, List.getElem_cons_succ, List.getElem_cons_zero, List.setIfInBounds_toArray, List.set_cons_zero, List.set_cons_succ]
          refine wpAnyH_take (i := 9) (oi := _) (v := _) rfl (by kernel_rfl) (by kernel_rfl) (by kernel_rfl) (fun _ _ _ h => h) (yieldsIf_load_mid (by rfl) _ _ rfl _ _ rfl _ _ (by intro w hSw; exact hSw.2.1) Try.underlying24 rfl i24m) hHeld ?_
          try simp only [Act.put, List.getElem_toArray, List.getElem_cons_succ, List.getElem_cons_zero, List.setIfInBounds_toArray, List.set_cons_zero, List.set_cons_succ]
          refine wpAnyH_ready (rs := [10, 14]) (by kernel_rfl) (by simp) ?_
          refine AllReadyH.cons (o := _) rfl (fun K hK => ?_) (AllReadyH.cons (o := _) rfl (fun K hK => ?_) AllReadyH.nil)
          · go_simp
            go_at_call 48
            refine (HC.out _).mono ?_
            rintro e wx1_ ⟨rfl, hwx1_⟩
            refine hK.out _ _ (keepB hwx1_ hHeld) (fun hHeld2 => ?_)
            clear hK K hHeld
            have hHeld := hHeld2
            clear hHeld2
            try simp only [Act.put, List.getElem_toArray, List.getElem_cons_succ, List.getElem_cons_zero, List.setIfInBounds_toArray, List.set_cons_zero, List.set_cons_succ]
            have X2_ := Lib.hid (K3.out.drew.below' hwx1_)
            have X3_ := Lib.hid (K1.out.drew.below' hwx1_)
            have X4_ := Lib.hid (K2.out.drew.below' hwx1_)
            have bel5_ := hbel.drew.trans (hwx1_.mono hbel.drew.size)
            refine wpAnyH_take (i := 11) (oi := _) (v := _) rfl (by kernel_rfl) (by kernel_rfl) (by kernel_rfl) (fun _ _ _ h => h) (Or.inl ⟨by rfl, by intro w hSw; (try dsimp only at hSw); go_simp; first | done | with_reducible rfl⟩) hHeld ?_
            try simp only [Act.put, List.getElem_toArray, List.getElem_cons_succ, List.getElem_cons_zero, List.setIfInBounds_toArray, List.set_cons_zero, List.set_cons_succ]
            refine wpAnyH_take (i := 12) (oi := _) (v := _) rfl (by kernel_rfl) (by kernel_rfl) (by kernel_rfl) (fun _ _ _ h => h) (Or.inl ⟨by rfl, by intro w hSw; (try dsimp only at hSw); go_simp; first | done | with_reducible rfl⟩) hHeld ?_
            try simp only [Act.put, List.getElem_toArray, List.getElem_cons_succ, List.getElem_cons_zero, List.setIfInBounds_toArray, List.set_cons_zero, List.set_cons_succ]
            refine wpAnyH_take (i := 13) (oi := _) (v := _) rfl (by kernel_rfl) (by kernel_rfl) (by kernel_rfl) (fun _ _ _ h => h) (Or.inl ⟨by rfl, by intro w hSw; (try dsimp only at hSw); go_simp; first | done | with_reducible rfl⟩) hHeld ?_
            try simp only [Act.put, List.getElem_toArray, List.getElem_cons_succ, List.getElem_cons_zero, List.setIfInBounds_toArray, List.set_cons_zero, List.set_cons_succ]
            refine wpAnyH_ready (rs := [14]) (by kernel_rfl) (by simp) ?_
            refine AllReadyH.cons (o := _) rfl (fun K hK => ?_) AllReadyH.nil
            have hnb14_r := X2_.out.lt
            have hnb14_m := X3_.out.lt
            go_simp
            refine hK.out _ _ (keepB ((Below.refl _ _).alloc (Nat.le_refl _) _) hHeld) (fun hHeld2 => ?_)
            clear hK K hHeld
            have hHeld := hHeld2
            clear hHeld2
            try simp only [Act.put, List.getElem_toArray, List.getElem_cons_succ, List.getElem_cons_zero, List.setIfInBounds_toArray, List.set_cons_zero, List.set_cons_succ]
            obtain ⟨wy6_, hwy6_⟩ : ∃ W_ : World, W_ = (wx1_).alloc (.cells (natsV .u64 (zeros 4)).toArray 24) := ⟨_, rfl⟩
            have X7_ := Lib.hid (show Blk wy6_ (w.heap.size + 1 + 1) 24 (natsV .u64 l1) from by rw [hwy6_]; exact X2_.out.alloc (.cells (natsV .u64 (zeros 4)).toArray 24))
            have X8_ := Lib.hid (show Blk wy6_ w.heap.size 24 (natsV .u64 lm) from by rw [hwy6_]; exact X3_.out.alloc (.cells (natsV .u64 (zeros 4)).toArray 24))
            have X9_ := Lib.hid (show Blk wy6_ (w.heap.size + 1) 24 (natsV .u64 (zeros 4)) from by rw [hwy6_]; exact X4_.out.alloc (.cells (natsV .u64 (zeros 4)).toArray 24))
            have Z10_ := Lib.hid (show Blk wy6_ (wx1_.heap.size) 24 (natsV .u64 (zeros 4)) from by rw [hwy6_]; exact Blk.new _ _ _)
            have bel11_ : Below w.heap.size w wy6_ := by rw [hwy6_]; exact (bel5_.alloc bel5_.size (.cells (natsV .u64 (zeros 4)).toArray 24))
            have hHeld3 : wy6_.rangeAt (w.heap.size + 1 + 1) 0 (natsV .u64 l1) ∧ wy6_.rangeAt w.heap.size 0 (natsV .u64 lm) ∧ wy6_.cell? ⟨b, off + t, none⟩ = some (.int .u8 (x : Nat)) := by rw [hwy6_]; exact hHeld
            clear hHeld
            have hHeld := hHeld3
            clear hHeld3
            refine world_as_ hwy6_ ?_
            clear hwy6_
            have hlr_ := X7_.out.lt
            have hlz_ := (bel11_).size
            refine wpAnyH_ready (rs := [15]) (by kernel_rfl) (by simp) ?_
            refine AllReadyH.cons (o := _) rfl (fun K hK => ?_) AllReadyH.nil
            rw [if_pos (by rfl)]
            refine wst24 (.tmp 8) (.tmp 32) rfl (wx1_.heap.size) rfl ls rfl hLs (zeros 4) Z10_.out rfl ?_
            refine hK.out _ _ (⟨blk_rangeV (X7_.out.row (natsV .u64 ls).toArray (show w.heap.size + 1 + 1 ≠ (wx1_.heap.size) by first | assumption | exact Ne.symm (by assumption) | omega)), blk_rangeV (X8_.out.row (natsV .u64 ls).toArray (show w.heap.size ≠ (wx1_.heap.size) by first | assumption | exact Ne.symm (by assumption) | omega)), (World.cell?_of_block (a := ⟨b, off + t, none⟩) (setRow_other _ _ b _ (show b ≠ (wx1_.heap.size) by have := World.block_lt_of_cell? _ _ cb0; first | omega | (simp at this; omega)))).trans hHeld.2.2⟩) (fun hHeld2 => ?_)
            clear hK K hHeld
            have hHeld := hHeld2
            clear hHeld2
            try simp only [Act.put, List.getElem_toArray, List.getElem_cons_succ, List.getElem_cons_zero, List.setIfInBounds_toArray, List.set_cons_zero, List.set_cons_succ]
            refine wpAnyH_take (i := 16) (oi := _) (v := _) rfl (by kernel_rfl) (by kernel_rfl) (by kernel_rfl) (fun _ _ _ h => h) (Or.inl ⟨by rfl, by intro w hSw; (try dsimp only at hSw); go_simp; first | done | with_reducible rfl⟩) hHeld ?_
            try simp only [Act.put, List.getElem_toArray, List.getElem_cons_succ, List.getElem_cons_zero, List.setIfInBounds_toArray, List.set_cons_zero, List.set_cons_succ]
            refine wpAnyH_done (by kernel_rfl) ?_ _
            have F_t := Lib.hid (Z10_.out.setRow (natsV .u64 ls))
            have F_r := Lib.hid (X7_.out.row (natsV .u64 ls).toArray (show w.heap.size + 1 + 1 ≠ (wx1_.heap.size) by first | assumption | exact Ne.symm (by assumption) | omega))
            have F_m := Lib.hid (X8_.out.row (natsV .u64 ls).toArray (show w.heap.size ≠ (wx1_.heap.size) by first | assumption | exact Ne.symm (by assumption) | omega))
            have F_o := Lib.hid (X9_.out.row (natsV .u64 ls).toArray (show w.heap.size + 1 ≠ (wx1_.heap.size) by first | assumption | exact Ne.symm (by assumption) | omega))
            have belF := below_setRow' bel11_ (show w.heap.size ≤ (wx1_.heap.size) by omega) (natsV .u64 ls).toArray
            have nezr : (wx1_.heap.size) ≠ w.heap.size + 1 + 1 := by first | assumption | exact Ne.symm (by assumption) | omega
            go_wp2_with (first | (refine ld24 rfl (.tmp 8) rfl (wx1_.heap.size) rfl ls F_t.out hLs ?_) | (refine st24 rfl (.tmp 5) (.tmp 34) rfl (w.heap.size + 1 + 1) rfl ls rfl hLs l1 F_r.out hL1 ?_))
            go_roundw
            case rel => exact ⟨j, by omega, by rw [← HHF.out], F_m.out.row _ (by omega), F_o.out.row _ (by omega), by rw [← HLS.out]; exact F_r.out.setRow _, below_setRow' belF (by omega) _⟩
            case measure => simp [intOf] <;> omega
          · have hnb14_r := K3.out.drew.lt
            have hnb14_m := K1.out.drew.lt
            go_simp
            refine hK.out _ _ (keepB ((Below.refl _ _).alloc (Nat.le_refl _) _) hHeld) (fun hHeld2 => ?_)
            clear hK K hHeld
            have hHeld := hHeld2
            clear hHeld2
            try simp only [Act.put, List.getElem_toArray, List.getElem_cons_succ, List.getElem_cons_zero, List.setIfInBounds_toArray, List.set_cons_zero, List.set_cons_succ]
            obtain ⟨wy12_, hwy12_⟩ : ∃ W_ : World, W_ = (wr.drew).alloc (.cells (natsV .u64 (zeros 4)).toArray 24) := ⟨_, rfl⟩
            have X13_ := Lib.hid (show Blk wy12_ (w.heap.size + 1 + 1) 24 (natsV .u64 l1) from by rw [hwy12_]; exact K3.out.drew.alloc (.cells (natsV .u64 (zeros 4)).toArray 24))
            have X14_ := Lib.hid (show Blk wy12_ w.heap.size 24 (natsV .u64 lm) from by rw [hwy12_]; exact K1.out.drew.alloc (.cells (natsV .u64 (zeros 4)).toArray 24))
            have X15_ := Lib.hid (show Blk wy12_ (w.heap.size + 1) 24 (natsV .u64 (zeros 4)) from by rw [hwy12_]; exact K2.out.drew.alloc (.cells (natsV .u64 (zeros 4)).toArray 24))
            have Z16_ := Lib.hid (show Blk wy12_ (wr.drew.heap.size) 24 (natsV .u64 (zeros 4)) from by rw [hwy12_]; exact Blk.new _ _ _)
            have bel17_ : Below w.heap.size w wy12_ := by rw [hwy12_]; exact (hbel.drew.alloc hbel.drew.size (.cells (natsV .u64 (zeros 4)).toArray 24))
            have hHeld3 : wy12_.rangeAt (w.heap.size + 1 + 1) 0 (natsV .u64 l1) ∧ wy12_.rangeAt w.heap.size 0 (natsV .u64 lm) ∧ wy12_.cell? ⟨b, off + t, none⟩ = some (.int .u8 (x : Nat)) := by rw [hwy12_]; exact hHeld
            clear hHeld
            have hHeld := hHeld3
            clear hHeld3
            refine world_as_ hwy12_ ?_
            clear hwy12_
            refine wpAnyH_ready (rs := [10]) (by kernel_rfl) (by simp) ?_
            refine AllReadyH.cons (o := _) rfl (fun K hK => ?_) AllReadyH.nil
            go_simp
            go_at_call 48
            refine (HC.out _).mono ?_
            rintro e wx18_ ⟨rfl, hwx18_⟩
            refine hK.out _ _ (keepB hwx18_ hHeld) (fun hHeld2 => ?_)
            clear hK K hHeld
            have hHeld := hHeld2
            clear hHeld2
            try simp only [Act.put, List.getElem_toArray, List.getElem_cons_succ, List.getElem_cons_zero, List.setIfInBounds_toArray, List.set_cons_zero, List.set_cons_succ]
            have X19_ := Lib.hid (X13_.out.below' hwx18_)
            have X20_ := Lib.hid (X14_.out.below' hwx18_)
            have X21_ := Lib.hid (X15_.out.below' hwx18_)
            have X22_ := Lib.hid (Z16_.out.below' hwx18_)
            have bel23_ := bel17_.trans (hwx18_.mono bel17_.size)
            refine wpAnyH_take (i := 11) (oi := _) (v := _) rfl (by kernel_rfl) (by kernel_rfl) (by kernel_rfl) (fun _ _ _ h => h) (Or.inl ⟨by rfl, by intro w hSw; (try dsimp only at hSw); go_simp; first | done | with_reducible rfl⟩) hHeld ?_
            try simp only [Act.put, List.getElem_toArray, List.getElem_cons_succ, List.getElem_cons_zero, List.setIfInBounds_toArray, List.set_cons_zero, List.set_cons_succ]
            refine wpAnyH_take (i := 12) (oi := _) (v := _) rfl (by kernel_rfl) (by kernel_rfl) (by kernel_rfl) (fun _ _ _ h => h) (Or.inl ⟨by rfl, by intro w hSw; (try dsimp only at hSw); go_simp; first | done | with_reducible rfl⟩) hHeld ?_
            try simp only [Act.put, List.getElem_toArray, List.getElem_cons_succ, List.getElem_cons_zero, List.setIfInBounds_toArray, List.set_cons_zero, List.set_cons_succ]
            refine wpAnyH_take (i := 13) (oi := _) (v := _) rfl (by kernel_rfl) (by kernel_rfl) (by kernel_rfl) (fun _ _ _ h => h) (Or.inl ⟨by rfl, by intro w hSw; (try dsimp only at hSw); go_simp; first | done | with_reducible rfl⟩) hHeld ?_
            try simp only [Act.put, List.getElem_toArray, List.getElem_cons_succ, List.getElem_cons_zero, List.setIfInBounds_toArray, List.set_cons_zero, List.set_cons_succ]
            have hlr_ := X19_.out.lt
            have hlz_ := (bel23_).size
            refine wpAnyH_ready (rs := [15]) (by kernel_rfl) (by simp) ?_
            refine AllReadyH.cons (o := _) rfl (fun K hK => ?_) AllReadyH.nil
            rw [if_pos (by rfl)]
            refine wst24 (.tmp 8) (.tmp 32) rfl (wr.drew.heap.size) rfl ls rfl hLs (zeros 4) X22_.out rfl ?_
            refine hK.out _ _ (⟨blk_rangeV (X19_.out.row (natsV .u64 ls).toArray (show w.heap.size + 1 + 1 ≠ (wr.drew.heap.size) by first | assumption | exact Ne.symm (by assumption) | omega)), blk_rangeV (X20_.out.row (natsV .u64 ls).toArray (show w.heap.size ≠ (wr.drew.heap.size) by first | assumption | exact Ne.symm (by assumption) | omega)), (World.cell?_of_block (a := ⟨b, off + t, none⟩) (setRow_other _ _ b _ (show b ≠ (wr.drew.heap.size) by have := World.block_lt_of_cell? _ _ cb0; first | omega | (simp at this; omega)))).trans hHeld.2.2⟩) (fun hHeld2 => ?_)
            clear hK K hHeld
            have hHeld := hHeld2
            clear hHeld2
            try simp only [Act.put, List.getElem_toArray, List.getElem_cons_succ, List.getElem_cons_zero, List.setIfInBounds_toArray, List.set_cons_zero, List.set_cons_succ]
            refine wpAnyH_take (i := 16) (oi := _) (v := _) rfl (by kernel_rfl) (by kernel_rfl) (by kernel_rfl) (fun _ _ _ h => h) (Or.inl ⟨by rfl, by intro w hSw; (try dsimp only at hSw); go_simp; first | done | with_reducible rfl⟩) hHeld ?_
            try simp only [Act.put, List.getElem_toArray, List.getElem_cons_succ, List.getElem_cons_zero, List.setIfInBounds_toArray, List.set_cons_zero, List.set_cons_succ]
            refine wpAnyH_done (by kernel_rfl) ?_ _
            have F_t := Lib.hid (X22_.out.setRow (natsV .u64 ls))
            have F_r := Lib.hid (X19_.out.row (natsV .u64 ls).toArray (show w.heap.size + 1 + 1 ≠ (wr.drew.heap.size) by first | assumption | exact Ne.symm (by assumption) | omega))
            have F_m := Lib.hid (X20_.out.row (natsV .u64 ls).toArray (show w.heap.size ≠ (wr.drew.heap.size) by first | assumption | exact Ne.symm (by assumption) | omega))
            have F_o := Lib.hid (X21_.out.row (natsV .u64 ls).toArray (show w.heap.size + 1 ≠ (wr.drew.heap.size) by first | assumption | exact Ne.symm (by assumption) | omega))
            have belF := below_setRow' bel23_ (show w.heap.size ≤ (wr.drew.heap.size) by omega) (natsV .u64 ls).toArray
            have nezr : (wr.drew.heap.size) ≠ w.heap.size + 1 + 1 := by first | assumption | exact Ne.symm (by assumption) | omega
            go_wp2_with (first | (refine ld24 rfl (.tmp 8) rfl (wr.drew.heap.size) rfl ls F_t.out hLs ?_) | (refine st24 rfl (.tmp 5) (.tmp 34) rfl (w.heap.size + 1 + 1) rfl ls rfl hLs l1 F_r.out hL1 ?_))
            go_roundw
            case rel => exact ⟨j, by omega, by rw [← HHF.out], F_m.out.row _ (by omega), F_o.out.row _ (by omega), by rw [← HLS.out]; exact F_r.out.setRow _, below_setRow' belF (by omega) _⟩
            case measure => simp [intOf] <;> omega
    · as_aux_lemma =>
      obtain rfl : t = n := by omega
      have hti : ¬ ((t : Int) < (t : Int)) := by omega
      rw [show 8 * (t - t) = 0 by omega] at K3
      have hL0 := LX.out 0
      go_wp2_with (first | (refine ld24 rfl (.tmp 5) rfl (w.heap.size + 1 + 1) rfl (wds 4 (X 0)) K3.out hL0 ?_) | (refine st24 rfl (.tmp 4) (.tmp 35) rfl (w.heap.size + 1) rfl (wds 4 (X 0)) rfl hL0 (zeros 4) K2.out rfl ?_))
      refine bodyPost_ret (v := .agg (natsV .u64 (wds 4 (X 0))).toArray) ?_ rfl ⟨rfl, below_setRow' hbel (by omega) _⟩
      exact ret24 Try.results17 _ _ (w.heap.size + 1) (wds 4 (X 0)) rfl (K2.out.setRow _) hL0
end Go.Proofs.Ytfaoajljaggklaa
