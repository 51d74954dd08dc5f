/- Numbers' items, the project's and the document's. No condition. -/
import Derived.Test.YtbabpmncdphnjaaVb
import Derived.Test.YtbabpmncdphnjaaLq
import Derived.Deep.MidRow
import Derived.Deep.OwnRows
namespace Go.Proofs.Ytbabpmncdphnjaa
open Go.RowKit
set_option linter.unusedVariables false
set_option maxRecDepth 100000

theorem be_top : ∀ (j v : Nat), be (j + 1) v = (v / 256 ^ j % 256) :: be j v
  | 0, v => by simp [be]
  | j + 1, v => by
    show be (j + 1) (v / 256) ++ [v % 256] = _
    rw [be_top j (v / 256), Nat.div_div_eq_div_mul, Nat.pow_succ, Nat.mul_comm (256 ^ j)]
    rfl
theorem be_fill (m j v : Nat) : (zeros (m + 1) ++ be j v).set m (v / 256 ^ j % 256) = zeros m ++ be (j + 1) v := by
  rw [be_top, show zeros (m + 1) = zeros m ++ [0] from by simp [zeros, List.replicate_succ'], List.append_assoc, List.set_append_right (h := by simp [zeros])]
  simp [zeros]
theorem be_zero (j v : Nat) (h : v < 256 ^ j) : be (j + 1) v = 0 :: be j v := by rw [be_top, Nat.div_eq_of_lt h]
theorem be_nb (j v : Nat) (hj : 1 ≤ j) (h1 : v < 256 ^ j) (h2 : j = 1 ∨ 256 ^ (j - 1) ≤ v) : (128 ≤ (be j v).getD 0 0 → 0 :: be j v = be (nb v) v) ∧ ((be j v).getD 0 0 < 128 → be j v = be (nb v) v) := by
  obtain ⟨m, rfl⟩ : ∃ m, j = m + 1 := ⟨j - 1, by omega⟩
  have hp := Nat.pow_pos (n := m) (show 0 < 256 by omega)
  have hq : v / 256 ^ m < 256 := Nat.div_lt_of_lt_mul (by rw [Nat.pow_succ] at h1; exact h1)
  rw [be_head, Nat.mod_eq_of_lt hq]
  constructor
  · intro h
    have h3 := (Nat.le_div_iff_mul_le hp).1 h
    have h4 := nb_le (m + 1) v (by omega)
    have h5 : ¬ nb v ≤ m + 1 := fun hh => by have := nb_lt m v hh; omega
    rw [show nb v = m + 2 by omega, be_zero _ _ h1]
  · intro h
    have h3 := (Nat.div_lt_iff_lt_mul hp).1 h
    have h4 := nb_le m v h3
    have h5 : nb v = m + 1 := by
      have hpos := nb_pos v
      rcases h2 with h2 | h2
      · omega
      · rcases Nat.lt_or_ge (nb v) (m + 1) with h6 | h6
        · exfalso
          obtain ⟨i, rfl⟩ : ∃ i, m = i + 1 := ⟨m - 1, by omega⟩
          have := nb_lt i v (by omega)
          rw [Nat.add_sub_cancel, Nat.pow_succ] at h2
          have := Nat.pow_pos (n := i) (show 0 < 256 by omega)
          omega
        · omega
    rw [h5]
theorem info5m : (Try.prog.info? 5).map (fun i => (i.zero, i.size, i.bytes)) = some (some (.int .u8 0), 1, 1) := info5
theorem made_bytes (n : Nat) : madeCells #[Value.int .u8 0] n = (natsV .u8 (zeros n)).toArray := by
  apply Array.ext
  · simp [madeCells, natsV, zeros]
  · intro i h1 h2
    simp [madeCells, natsV, zeros, Nat.mod_one]
theorem mk_u8 (n : Nat) (hn : n ≤ 100000) (w : World) : (Instr.makeSlice 22 (.int .i64 (n : Int)) (.int .i64 (n : Int))).run Try.prog w = .ok (.slice (some ⟨w.heap.size, 0, none⟩) n n) (w.alloc (.cells (natsV .u8 (zeros n)).toArray 5)) := by
  rw [← made_bytes]
  exact run_make_row' 22 5 (.int .u8 0) 1 Try.underlying22 info5m rfl .i64 .i64 n (by omega) (by omega) w
theorem blk_own {w : World} {base g n : Nat} {L : List Nat} (h : Blk w g 5 (natsV .u8 L)) (hg : base ≤ g) (hl : L.length = n) (hn : n ≤ 100000) : w.ownsRow base 5 1 (.slice (some ⟨g, 0, none⟩) n n) L.length (bytesV L) := by
  subst hl
  exact ⟨by simp [bytesV], .inr ⟨g, L.length, _, rfl, hg, h, Nat.le_refl _, by unfold maxLen; omega, by simp [natsV], by show List.take (L.length * 1) (natsV .u8 L) = _; rw [List.take_of_length_le (by simp [natsV])]; rfl⟩⟩
theorem blk_in {w : World} {g n : Nat} {L : List Nat} (h : Blk w g 5 (natsV .u8 L)) (hl : L.length = n) (hn : n ≤ 100000) (h8 : ∀ x ∈ L, x < 256) : BIn w (some ⟨g, 0, none⟩) n n L := by
  obtain ⟨a, c, e, hin, _⟩ := own_in (blk_own h (Nat.zero_le g) hl hn) h8 (by omega)
  injection e with e1 e2 e3
  subst e1 e3
  rw [hl] at hin
  exact hin
theorem ItemIs.of {t : Nat} {b : List Nat} {w w' : World} {n : Nat} {a : Option Addr} {c : Nat} (ht : t < 256) (hn : b.length = n) (hb : BIn w' a n c b) (hbel : Below w.heap.size w w') : ItemIs t b w (.returned (itV t a n c none 0 0)) w' := by
  subst hn; exact ⟨a, c, rfl, ⟨ht, hb, KIn.nil _⟩, hbel⟩

set_option maxHeartbeats 4000000 in
theorem OfUint_any (w : World) (v : Nat) (hv : v < 18446744073709551616) : Calls Try.prog 23 #[.int .u64 (v : Nat)] w (ItemIs 2 (be (nb v) v) w) := by
  have hnb := nb_bitLen v v (Nat.le_refl _)
  have h9 : nb v ≤ 9 := nb_le 8 v (by rw [show (256 : Nat) ^ 8 = 18446744073709551616 from rfl]; omega)
  have hC := fun w' => len64_any (v : Int) w' (by omega) (by omega)
  rw [Int.toNat_natCast] at hC
  have HC := Lib.hid hC
  clear hC
  obtain ⟨q, hq⟩ : ∃ q, bitLen v = q := ⟨_, rfl⟩
  rw [hq] at hnb HC
  obtain ⟨n, hn⟩ : ∃ n, nb v = n := ⟨_, rfl⟩
  have hmk := fun w => mk_u8 n (by omega) w
  have HN := Lib.hid hn
  have hq2 : (q : Int) / 8 + 1 = (n : Int) := by omega
  have hq3 : (q : Int).tdiv 8 + 1 = (n : Int) := by rw [Int.tdiv_eq_ediv_of_nonneg (by omega)]; exact hq2
  rw [hn]
  have hn1 : 1 ≤ n := by have := nb_pos v; omega
  have hn9 : n ≤ 9 := by omega
  have HV := Lib.hid hv
  have B0 := Lib.hid ((Blk.new w 25 [.int .u8 0, .slice none 0 0, .slice none 0 0]).alloc (.cells (natsV .u8 (zeros n)).toArray 5))
  have B1 := Lib.hid (Blk.new2 w (.cells #[.int .u8 0, .slice none 0 0, .slice none 0 0] 25) 5 (natsV .u8 (zeros n)))
  have BEL := Lib.hid (((Below.refl w.heap.size w).alloc (Nat.le_refl _) (.cells #[.int .u8 0, .slice none 0 0, .slice none 0 0] 25)).alloc (by simp) (.cells (natsV .u8 (zeros n)).toArray 5))
  clear hn h9 hnb hq hv
  go_enter Try.func23, Try.ntmps23
  go_wp2_with (go_at_call 58; refine (HC.out _).mono ?_; rintro e w' ⟨rfl, rfl⟩)
  clear hmk
  go_loopw [0, 4] (fun x i wr => ∃ m, m ≤ n ∧ i = .int .i64 ((m : Int) - 1) ∧ x = .int .u64 (v / 256 ^ (n - m) : Nat) ∧ Blk wr w.heap.size 25 [.int .u8 0, .slice none 0 0, .slice none 0 0] ∧ Blk wr (w.heap.size + 1) 5 (natsV .u8 (zeros m ++ be (n - m) v)) ∧ Below w.heap.size w wr) (fun _ i _ => (intOf i + 1).toNat)
  case atStart => exact ⟨n, Nat.le_refl _, rfl, by rw [Nat.sub_self]; simp, B0.out, by rw [Nat.sub_self]; simpa [be] using B1.out, BEL.out⟩
  case round =>
    clear B0 B1 BEL
    obtain ⟨m, hm, e4, e0, k0, k1, hbel⟩ := hrel
    have K0 := Lib.hid k0
    have K1 := Lib.hid k1
    clear k0 k1
    cases m with
    | zero =>
      have e4' : u4 = .int .i64 (-1) := by rw [e4]; rfl
      subst e4' e0
      clear e4
      rw [Nat.sub_zero] at K1
      have K1' := Lib.hid (show Blk wr (w.heap.size + 1) 5 (natsV .u8 (be n v)) by have := K1.out; simpa [zeros] using this)
      go_wp2_with (first | (refine wpList_store_row (P := Try.prog) rfl 25 (.tmp 2) (.tmp 25) rfl w.heap.size #[.int .u8 2, .slice (some ⟨w.heap.size + 1, 0, none⟩) n n, .slice none 0 0] rfl rfl 25 _ K0.out info25 rfl (all_item _ _ _ _ _ _ _) ?_))
      have D3 := K0.out.setRow [.int .u8 2, .slice (some ⟨w.heap.size + 1, 0, none⟩) n n, .slice none 0 0]
      refine bodyPost_ret (results_one Try.results23 _ _ w.heap.size 25 _ (0, 0) _ rfl D3 Try.underlying25 rfl info25) rfl ?_
      exact ItemIs.of (by decide) (be_length _ _) (blk_in (K1'.out.row _ (by omega)) (be_length _ _) (by omega) (be_lt _ _)) (below_setRow' hbel (Nat.le_refl _) _)
    | succ m =>
      have e4' : u4 = .int .i64 (m : Nat) := by rw [e4]; congr 1; omega
      subst e4' e0
      clear e4
      obtain ⟨j, hj⟩ : ∃ j, n - (m + 1) = j := ⟨_, rfl⟩
      have hj2 : n - m = j + 1 := by omega
      rw [hj] at K1 ⊢
      have HF := Lib.hid (be_fill m j v)
      have HX := Lib.hid (show v / 256 ^ j / 256 = v / 256 ^ (j + 1) by rw [Nat.div_div_eq_div_mul, Nat.pow_succ])
      have hX : v / 256 ^ j < 18446744073709551616 := Nat.lt_of_le_of_lt (Nat.div_le_self _ _) HV.out
      obtain ⟨X, hXe⟩ : ∃ X, v / 256 ^ j = X := ⟨_, rfl⟩
      have HXE := Lib.hid hXe
      rw [hXe] at HF HX hX ⊢
      have hlen : (zeros (m + 1) ++ be j v).length = n := by rw [List.length_append, be_length]; simp [zeros]; omega
      have hm2 : m < n := by omega
      have hmi : (m : Int) < (n : Int) := by omega
      have c1 := K1.out.cell m
      rw [natsV_get _ _ _ (by rw [hlen]; exact hm2)] at c1
      have f1 := K1.out.free m
      obtain ⟨y, hy⟩ : ∃ y, (zeros (m + 1) ++ be j v).getD m 0 = y := ⟨_, rfl⟩
      rw [hy] at c1
      clear hXe hlen hy
      go_wp2_with fail
      have K1' := K1.out.natSet m (X % 256)
      rw [HF.out] at K1'
      have K0' := K0.out.other ⟨w.heap.size + 1, m, none⟩ (.int .u8 ((X % 256 : Nat) : Int)) (by simp)
      have hb' := hbel.setCell (p := ⟨w.heap.size + 1, m, none⟩) (by simp) (.int .u8 ((X % 256 : Nat) : Int))
      go_roundw
      case rel => exact ⟨m, by omega, by go_num, by rw [hj2, ← HX.out]; go_num, K0', by rw [hj2]; exact K1', hb'⟩
      case measure => first | (simp [intOf]; done) | (simp [intOf]; omega)
/-- one byte ahead of a list -/
theorem own_lit1 (w : World) (x : Nat) : (w.alloc (.cells #[.int .u8 (x : Nat)] 5)).ownsRow w.heap.size 5 1 (.slice (some ⟨w.heap.size, 0, none⟩) 1 1) 1 (bytesV [x]) :=
  World.ownsRow_lit (base := w.heap.size) (e := 5) (size := 1) w (bytesV [x]).toArray 1 (Nat.le_refl _) (by simp [maxLen]) (by simp [bytesV])
def lenOf (v : Value) : Nat := match v with | .slice _ n _ => n | _ => 0

set_option maxHeartbeats 4000000 in
theorem refOfUint_any (w : World) (v : Nat) (hv : v < 18446744073709551616) : Calls Try.prog 25 #[.int .u64 (v : Nat)] w (ItemIs 2 (be (nb v) v) w) := by
  have B0 := Lib.hid (Blk.new w 25 [.int .u8 0, .slice none 0 0, .slice none 0 0])
  have BEL := Lib.hid ((Below.refl w.heap.size w).alloc (Nat.le_refl _) (.cells #[.int .u8 0, .slice none 0 0, .slice none 0 0] 25))
  have hs1 : (w.alloc (.cells #[.int .u8 0, .slice none 0 0, .slice none 0 0] 25)).heap.size = w.heap.size + 1 := by simp
  have HV := Lib.hid hv
  have h8 : v < 256 ^ 8 := hv
  clear hv
  go_enter Try.func25, Try.ntmps25
  go_wp2_with fail
  generalize w.alloc (.cells #[.int .u8 0, .slice none 0 0, .slice none 0 0] 25) = W1 at *
  have HS1 := Lib.hid hs1
  have H8 := Lib.hid h8
  clear hs1 h8
  go_loopw [0, 3] (fun x b wr => ∃ j, j ≤ 8 ∧ x = .int .u64 (v / 256 ^ j : Nat) ∧ wr.ownsRow W1.heap.size 5 1 b j (bytesV (be j v)) ∧ (j ≤ 1 ∨ 256 ^ (j - 1) ≤ v) ∧ (j = 0 → b = .slice none 0 0) ∧ Below W1.heap.size W1 wr) (fun _ b _ => 9 - lenOf b)
  case atStart => exact ⟨0, by omega, by simp, World.ownsRow_nil _ _ _ _, .inl (by omega), fun _ => rfl, Below.refl _ _⟩
  case round =>
    obtain ⟨j, hj, rfl, hown, hlow, hj0, hbel⟩ := hrel
    obtain ⟨a, c, rfl⟩ := own_slice hown
    have HO := Lib.hid hown
    have HL := Lib.hid hlow
    have HBW := Lib.hid (BEL.out.trans (hbel.mono BEL.out.size))
    obtain ⟨a', c', e, hin, _⟩ := own_in hown (be_lt _ _) (by omega)
    injection e with e1 e2 e3
    subst e1 e3
    have HI := Lib.hid hin
    have hX : v / 256 ^ j < 18446744073709551616 := Nat.lt_of_le_of_lt (Nat.div_le_self _ _) HV.out
    have hX2 := Lib.hid (show v / 256 ^ j / 256 = v / 256 ^ (j + 1) by rw [Nat.div_div_eq_div_mul, Nat.pow_succ])
    have hT := Lib.hid (be_top j v)
    have hZ := Lib.hid (show 0 < v / 256 ^ j → 256 ^ j ≤ v from fun h => by
      have := (Nat.le_div_iff_mul_le (Nat.pow_pos (n := j) (show 0 < 256 by omega))).1 h; omega)
    have hN := Lib.hid (show v / 256 ^ j = 0 → v < 256 ^ j from fun h => by
      have := (Nat.div_eq_zero_iff_lt (Nat.pow_pos (n := j) (show 0 < 256 by omega))).1 h; exact this)
    obtain ⟨X, hXe⟩ : ∃ X, v / 256 ^ j = X := ⟨_, rfl⟩
    have HXE := Lib.hid hXe
    rw [hXe] at hX hX2 hT hZ hN ⊢
    clear hown hlow hin hXe
    by_cases hgo : 0 < X ∨ j = 0
    · have hj7 : j ≤ 7 := by
        rcases hgo with h | h
        · have h1 := hZ.out h
          have h2 := H8.out
          rcases Nat.lt_or_ge j 8 with h3 | h3
          · omega
          · obtain rfl : j = 8 := by omega
            omega
        · omega
      have hlow2 := Lib.hid (show j + 1 ≤ 1 ∨ 256 ^ (j + 1 - 1) ≤ v by
        rcases hgo with h | h
        · exact .inr (hZ.out h)
        · exact .inl (by omega))
      have hL1 := Lib.hid (fun W : World => own_lit1 W (X % 256))
      have hgp : (0 : Int) < (X : Int) ∨ (¬ (0 : Int) < (X : Int) ∧ (j : Int) = 0) := by omega
      have HBL := Lib.hid hbel
      rcases hgp with hgp | ⟨hgp, hgq⟩
      · go_wp2_with (first | (at_builtin; refine wpList_append_bytes _ rfl (.tmp 14) (.tmp 15) rfl W1.heap.size (.slice (some ⟨wr.heap.size, 0, none⟩) 1 1) 1 [X % 256] rfl (ownsMono (hL1.out wr) HBL.out.size) a j c (be j v) rfl (HI.out.below ((Below.refl _ _).alloc (Nat.le_refl _) _)) (by omega) (by have := HBL.out.size; simp; omega) ?_; intro v4 w4 ho4 hg4))
        have hb4 : Below W1.heap.size W1 w4 := (HBL.out.alloc HBL.out.size _).grown hg4 (HBL.out.alloc HBL.out.size _).size (fun x hx => by simp [Value.ownBlock] at hx; have := HBL.out.size; omega)
        obtain ⟨a4, c4, rfl⟩ := own_slice ho4
        go_roundw
        case rel =>
          refine ⟨j + 1, by omega, by rw [← hX2.out]; go_num, ?_, hlow2.out, fun h => by omega, hb4⟩
          rw [hT.out, Nat.add_comm j 1]; exact ho4
        case measure => simp only [lenOf]; omega
      · obtain rfl : j = 0 := by omega
        have e0 := hj0 rfl
        injection e0 with e01 e02 e03
        subst e01 e03
        obtain rfl : X = 0 := by omega
        clear hj0 hgq hgo e02 hgp
        go_wp2_with (first | (at_builtin; refine wpList_append_bytes _ rfl (.tmp 14) (.tmp 15) rfl W1.heap.size (.slice (some ⟨wr.heap.size, 0, none⟩) 1 1) 1 [0] rfl (ownsMono (own_lit1 wr 0) HBL.out.size) none 0 0 (be 0 v) rfl (HI.out.below ((Below.refl _ _).alloc (Nat.le_refl _) _)) (by omega) (by have := HBL.out.size; simp; omega) ?_; intro v4 w4 ho4 hg4))
        have hb4 : Below W1.heap.size W1 w4 := (HBL.out.alloc HBL.out.size _).grown hg4 (HBL.out.alloc HBL.out.size _).size (fun x hx => by simp [Value.ownBlock] at hx; have := HBL.out.size; omega)
        obtain ⟨a4, c4, rfl⟩ := own_slice ho4
        go_roundw
        case rel =>
          refine ⟨1, by omega, by rw [show (1 : Nat) = 0 + 1 from rfl, ← hX2.out]; go_num, ?_, hlow2.out, fun h => by omega, hb4⟩
          rw [hT.out]; exact ho4
        case measure => simp only [lenOf]; omega
    · obtain rfl : X = 0 := by omega
      have hj1 : 1 ≤ j := by omega
      have hji : ¬ (j : Int) = 0 := by omega
      have hNB := Lib.hid (be_nb j v hj1 (hN.out rfl) (HL.out.imp (fun h => by omega) id))
      obtain ⟨B, o, rfl, hc⟩ := HI.out.1.2.2.2.resolve_left (by omega)
      have c0 := hc 0 (by omega)
      rw [Nat.add_zero] at c0
      have HB0 := Lib.hid (B0.out.below' hbel)
      have HBL := Lib.hid hbel
      have hjl : (0 : Int) < (j : Int) := by omega
      have hlen := be_length j v
      obtain ⟨x, hx⟩ : ∃ x, (be j v).getD 0 0 = x := ⟨_, rfl⟩
      have hx8 : x < 256 := by rw [← hx]; exact getD_lt (be_lt _ _) 0
      rw [hx] at c0 hNB
      clear hX hX2 hT hZ hN hx HXE hj0
      by_cases hh : 128 ≤ x
      · have hhi : (128 : Int) ≤ (x : Int) := by omega
        have HE := Lib.hid (hNB.out.1 hh)
        have hl9 : (be (nb v) v).length = j + 1 := by rw [← HE.out]; simp [hlen]
        go_wp2_with (first | (at_builtin; refine wpList_append_bytes _ rfl (.tmp 23) (.tmp 24) rfl W1.heap.size (.slice (some ⟨wr.heap.size, 0, none⟩) 1 1) 1 [0] rfl (ownsMono (own_lit1 wr 0) HBL.out.size) (some ⟨B, o, none⟩) j c (be j v) rfl (HI.out.below ((Below.refl _ _).alloc (Nat.le_refl _) _)) (by omega) (by have := HBL.out.size; simp; omega) ?_; intro v4 w4 ho4 hg4; obtain ⟨a4, c4, rfl⟩ := own_slice ho4; have HO4 := Lib.hid ho4; have HB4 := Lib.hid ((HB0.out.alloc (.cells #[.int .u8 0] 5)).grown hg4 (by simp [Value.ownBlock]; have := HS1.out; have := HBL.out.size; omega)); have hb4 := Lib.hid ((HBL.out.alloc HBL.out.size (.cells #[.int .u8 0] 5)).grown hg4 (HBL.out.alloc HBL.out.size _).size (fun x hx => by simp [Value.ownBlock] at hx; have := HBL.out.size; omega))) | (refine wpList_store_row (P := Try.prog) rfl 25 (.tmp 2) (.tmp 27) rfl w.heap.size #[.int .u8 2, .slice a4 (1 + j) c4, .slice none 0 0] rfl rfl 25 _ HB4.out info25 rfl (all_item _ _ _ _ _ _ _) ?_))
        have D3 := HB4.out.setRow [.int .u8 2, .slice a4 (1 + j) c4, .slice none 0 0]
        refine bodyPost_ret (results_one Try.results25 _ _ w.heap.size 25 _ (0, 0) _ rfl D3 Try.underlying25 rfl info25) rfl ?_
        have hO2 := own_set HO4.out HB4.out (by decide) #[.int .u8 2, .slice a4 (1 + j) c4, .slice none 0 0]
        obtain ⟨a5, c5, e5, hin5, _⟩ := own_in hO2 (l := 0 :: be j v) (by intro z hz; rw [HE.out] at hz; exact be_lt _ _ z hz) (by omega)
        injection e5 with e51 e52 e53
        subst e51 e53
        rw [HE.out] at hin5
        refine ItemIs.of (by decide) (by rw [hl9]; omega) hin5 (below_setRow' (BEL.out.trans (hb4.out.mono BEL.out.size)) (Nat.le_refl _) _)
      · have hhi : ¬ (128 : Int) ≤ (x : Int) := by omega
        have HE := Lib.hid (hNB.out.2 (by omega))
        go_wp2_with (first | (refine wpList_store_row (P := Try.prog) rfl 25 (.tmp 2) (.tmp 27) rfl w.heap.size #[.int .u8 2, .slice (some ⟨B, o, none⟩) j c, .slice none 0 0] rfl rfl 25 _ HB0.out info25 rfl (all_item _ _ _ _ _ _ _) ?_))
        have D3 := HB0.out.setRow [.int .u8 2, .slice (some ⟨B, o, none⟩) j c, .slice none 0 0]
        refine bodyPost_ret (results_one Try.results25 _ _ w.heap.size 25 _ (0, 0) _ rfl D3 Try.underlying25 rfl info25) rfl ?_
        have hO2 := own_set HO.out HB0.out (by decide) #[.int .u8 2, .slice (some ⟨B, o, none⟩) j c, .slice none 0 0]
        obtain ⟨a5, c5, e5, hin5, _⟩ := own_in hO2 (be_lt _ _) (by omega)
        injection e5 with e51 e52 e53
        subst e51 e53
        rw [HE.out] at hin5
        refine ItemIs.of (by decide) (by rw [← HE.out]; exact hlen) hin5 (below_setRow' HBW.out (Nat.le_refl _) _)
end Go.Proofs.Ytbabpmncdphnjaa
