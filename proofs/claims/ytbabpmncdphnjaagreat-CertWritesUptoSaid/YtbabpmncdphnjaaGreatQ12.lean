/- Parts of proofs of statements, each text behind those that it stands on. No condition of its own. -/
import Derived.Test.YtbabpmncdphnjaaGreatQ07
import Derived.Test.YtbabpmncdphnjaaGreatQ10
import Derived.Test.YtbabpmncdphnjaaGreatQ11
namespace Go.Proofs.YtbabpmncdphnjaaGreat
open Go.RowKit
set_option linter.unusedVariables false
set_option maxRecDepth 100000
set_option linter.unusedSimpArgs false
theorem dep_blk {w : World} {g n m : Nat} {L : List Nat} (h : Blk w g 5 (natsV .u8 L)) (hl : L.length = n) (hn : n ≤ 100000) (h8 : ∀ x ∈ L, x < 256) (hm : m ≤ g) : Dep (fun j => m ≤ j) w (fun x => BIn x (some ⟨g, 0, none⟩) n n L) :=
  fun w'' hw => blk_in (h.of (hw g hm h.lt)) hl hn h8
theorem ItR.nil {D : Nat → Prop} {t : Nat} {b : List Nat} {w w' : World} {n : Nat} {a : Option Addr} {c : Nat} (ht : t < 256) (hn : b.length = n) (hl : n ≤ 140737488355328) (h : Dep (fun j => w.heap.size ≤ j) w' (fun x => BIn x a n c b)) (hb : Below w.heap.size w w') : ItR D t b .nil w (.returned (itV t a n c none 0 0)) w' := by
  subst hn; exact ⟨a, _, c, none, 0, 0, rfl, rfl, rfl, (dep_itnil ht hl h).mono (fun j hj _ => .inr hj), hb⟩
def OfOR (R : Except Nat (List Nat)) (w : World) (e : Ending) (w' : World) : Prop :=
  Below w.heap.size w w' ∧ match R with
  | .error x => e = .returned (.tuple #[.agg #[.int .u8 0, .slice none 0 0, .slice none 0 0], .int .i64 (x : Nat)])
  | .ok b => ∃ a n c, b.length = n ∧ e = .returned (.tuple #[itV 6 a n c none 0 0, .int .i64 0]) ∧ Dep (fun j => w.heap.size ≤ j) w' (fun x => ItIn x 6 a c none 0 b .nil)
theorem OfOR.err {R : Except Nat (List Nat)} {w w' : World} {x : Nat} (h : R = .error x) (hb : Below w.heap.size w w') : OfOR R w (.returned (.tuple #[.agg #[.int .u8 0, .slice none 0 0, .slice none 0 0], .int .i64 (x : Nat)])) w' := by subst h; exact ⟨hb, rfl⟩
theorem OfOR.good {R : Except Nat (List Nat)} {w w' : World} {b : List Nat} (h : R = .ok b) (hb : Below w.heap.size w w') {a : Option Addr} {n c : Nat} (hn : b.length = n) (hl : n ≤ 140737488355328) (hi : Dep (fun j => w.heap.size ≤ j) w' (fun x => BIn x a n c b)) : OfOR R w (.returned (.tuple #[itV 6 a n c none 0 0, .int .i64 0])) w' := by
  subst h hn; exact ⟨hb, a, _, c, rfl, rfl, dep_itnil (by decide) hl hi⟩
theorem figs_takeK (F : List Nat) (q : Nat) (h : q < F.length) : figs (F.take (q + 1)) = figs (F.take q) ++ fig (F.getD q 0) := by
  rw [take_snoc F q h]; simp [figs]
theorem figs_lenK {F : List Nat} (h : ∀ v ∈ F, v ≤ 4294967295) : (figs F).length ≤ 5 * F.length := by
  induction F with
  | nil => simp [figs]
  | cons v F ih =>
    rw [figs_cons, List.length_append, List.length_cons]
    have := ih (fun u hu => h u (by simp [hu]))
    have := fig_len (h v (by simp))
    omega
set_option maxHeartbeats 4000000 in
theorem OfUint_d (w : World) (v : Nat) (hv : v < 18446744073709551616) : Calls Tryz.prog 78 #[.int .u64 (v : Nat)] w (ItR NoD 2 (be (nb v) v) .nil w) := by
  have hnb := nb_bitLen v v (Nat.le_refl _)
  have h9 : nb v ≤ 9 := nb_le 8 v (by rw [show (256 : Nat) ^ 8 = 18446744073709551616 from rfl]; omega)
  have hC := fun w' => len64_any (v : Int) w' (by omega) (by omega)
  rw [Int.toNat_natCast] at hC
  have HC := Lib.hid hC
  clear hC
  obtain ⟨q, hq⟩ : ∃ q, bitLen v = q := ⟨_, rfl⟩
  rw [hq] at hnb HC
  obtain ⟨n, hn⟩ : ∃ n, nb v = n := ⟨_, rfl⟩
  have hmk := fun w => mk_u8 n (by omega) w
  have HN := Lib.hid hn
  have hq2 : (q : Int) / 8 + 1 = (n : Int) := by omega
  have hq3 : (q : Int).tdiv 8 + 1 = (n : Int) := by rw [Int.tdiv_eq_ediv_of_nonneg (by omega)]; exact hq2
  rw [hn]
  have hn1 : 1 ≤ n := by have := nb_pos v; omega
  have hn9 : n ≤ 9 := by omega
  have HV := Lib.hid hv
  have B0 := Lib.hid ((Blk.new w 45 [.int .u8 0, .slice none 0 0, .slice none 0 0]).alloc (.cells (natsV .u8 (zeros n)).toArray 5))
  have B1 := Lib.hid (Blk.new2 w (.cells #[.int .u8 0, .slice none 0 0, .slice none 0 0] 45) 5 (natsV .u8 (zeros n)))
  have BEL := Lib.hid (((Below.refl w.heap.size w).alloc (Nat.le_refl _) (.cells #[.int .u8 0, .slice none 0 0, .slice none 0 0] 45)).alloc (by simp) (.cells (natsV .u8 (zeros n)).toArray 5))
  clear hn h9 hnb hq hv
  go_enter Tryz.func78, Tryz.ntmps78
  go_wp2_with (go_at_call 107; refine (HC.out _).mono ?_; rintro e w' ⟨rfl, rfl⟩)
  clear hmk
  go_loopw [0, 4] (fun x i wr => ∃ m, m ≤ n ∧ i = .int .i64 ((m : Int) - 1) ∧ x = .int .u64 (v / 256 ^ (n - m) : Nat) ∧ Blk wr w.heap.size 45 [.int .u8 0, .slice none 0 0, .slice none 0 0] ∧ Blk wr (w.heap.size + 1) 5 (natsV .u8 (zeros m ++ be (n - m) v)) ∧ Below w.heap.size w wr) (fun _ i _ => (intOf i + 1).toNat)
  case atStart => exact ⟨n, Nat.le_refl _, rfl, by rw [Nat.sub_self]; simp, B0.out, by rw [Nat.sub_self]; simpa [be] using B1.out, BEL.out⟩
  case round =>
    clear B0 B1 BEL
    obtain ⟨m, hm, e4, e0, k0, k1, hbel⟩ := hrel
    have K0 := Lib.hid k0
    have K1 := Lib.hid k1
    clear k0 k1
    cases m with
    | zero =>
      have e4' : u4 = .int .i64 (-1) := by rw [e4]; rfl
      subst e4' e0
      clear e4
      rw [Nat.sub_zero] at K1
      have K1' := Lib.hid (show Blk wr (w.heap.size + 1) 5 (natsV .u8 (be n v)) by have := K1.out; simpa [zeros] using this)
      go_wp2_with (first | (refine wpList_store_row (P := Tryz.prog) rfl 45 (.tmp 2) (.tmp 25) rfl w.heap.size #[.int .u8 2, .slice (some ⟨w.heap.size + 1, 0, none⟩) n n, .slice none 0 0] rfl rfl 45 _ K0.out info25 rfl (all_item _ _ _ _ _ _ _) ?_))
      have D3 := K0.out.setRow [.int .u8 2, .slice (some ⟨w.heap.size + 1, 0, none⟩) n n, .slice none 0 0]
      refine bodyPost_ret (results_one Tryz.results78 _ _ w.heap.size 45 _ (0, 0) _ rfl D3 Tryz.underlying45 rfl info25) rfl ?_
      exact ItR.nil (by decide) (be_length _ _) (by omega) (dep_blk (K1'.out.row _ (by omega)) (be_length _ _) (by omega) (be_lt _ _) (by omega)) (below_setRow' hbel (Nat.le_refl _) _)
    | succ m =>
      have e4' : u4 = .int .i64 (m : Nat) := by rw [e4]; congr 1; omega
      subst e4' e0
      clear e4
      obtain ⟨j, hj⟩ : ∃ j, n - (m + 1) = j := ⟨_, rfl⟩
      have hj2 : n - m = j + 1 := by omega
      rw [hj] at K1 ⊢
      have HF := Lib.hid (be_fill m j v)
      have HX := Lib.hid (show v / 256 ^ j / 256 = v / 256 ^ (j + 1) by rw [Nat.div_div_eq_div_mul, Nat.pow_succ])
      have hX : v / 256 ^ j < 18446744073709551616 := Nat.lt_of_le_of_lt (Nat.div_le_self _ _) HV.out
      obtain ⟨X, hXe⟩ : ∃ X, v / 256 ^ j = X := ⟨_, rfl⟩
      have HXE := Lib.hid hXe
      rw [hXe] at HF HX hX ⊢
      have hlen : (zeros (m + 1) ++ be j v).length = n := by rw [List.length_append, be_length]; simp [zeros]; omega
      have hm2 : m < n := by omega
      have hmi : (m : Int) < (n : Int) := by omega
      have c1 := K1.out.cell m
      rw [natsV_get _ _ _ (by rw [hlen]; exact hm2)] at c1
      have f1 := K1.out.free m
      obtain ⟨y, hy⟩ : ∃ y, (zeros (m + 1) ++ be j v).getD m 0 = y := ⟨_, rfl⟩
      rw [hy] at c1
      clear hXe hlen hy
      go_wp2_with fail
      have K1' := K1.out.natSet m (X % 256)
      rw [HF.out] at K1'
      have K0' := K0.out.other ⟨w.heap.size + 1, m, none⟩ (.int .u8 ((X % 256 : Nat) : Int)) (by simp)
      have hb' := hbel.setCell (p := ⟨w.heap.size + 1, m, none⟩) (by simp) (.int .u8 ((X % 256 : Nat) : Int))
      go_roundw
      case rel => exact ⟨m, by omega, by go_num, by rw [hj2, ← HX.out]; go_num, K0', by rw [hj2]; exact K1', hb'⟩
      case measure => first | (simp [intOf]; done) | (simp [intOf]; omega)
set_option maxRecDepth 100000 in
set_option maxHeartbeats 4000000 in
theorem OfBits_d (w : World) (b : List Nat) (a : Option Addr) (n c : Nat) (hin : BIn w a n c b) (hbn : n ≤ 140737488351232) :
    Calls Tryz.prog 81 #[.slice a n c] w (ItR NoD 3 (0 :: b) .nil w) := by
  have hn : b.length = n := hin.1.1
  have HI := Lib.hid hin
  have HNN := Lib.hid hbn
  have h8 : ∀ z ∈ 0 :: b, z < 256 := by intro z hz; rcases List.mem_cons.1 hz with rfl | hz; omega; exact hin.1.2.2.1 z hz
  have H8 := Lib.hid h8
  have hbel := fun o1 o2 => ((Below.refl _ w).alloc (Nat.le_refl _) o1).alloc (show w.heap.size ≤ (w.alloc o1).heap.size by simp) o2
  have HBEL := Lib.hid hbel
  have B0 := Blk.new w 45 [.int .u8 0, .slice none 0 0, .slice none 0 0]
  have H0 := Lib.hid (B0.alloc (.cells #[.int .u8 0] 5))
  have HZ := Lib.hid (World.ownsRow_lit (base := w.heap.size) (e := 5) (size := 1) (w.alloc (.cells #[.int .u8 0, .slice none 0 0, .slice none 0 0] 45)) #[.int .u8 0] 1 (by simp) (by simp [maxLen]) rfl)
  simp only [World.size_alloc] at HZ
  have HE := Lib.hid (HI.out.below (HBEL.out (.cells #[.int .u8 0, .slice none 0 0, .slice none 0 0] 45) (.cells #[.int .u8 0] 5)))
  clear hin hbn h8 hbel B0
  go_enter Tryz.func81, Tryz.ntmps81
  go_wp2_with (first | (at_builtin; refine wpList_append_bytes _ rfl (.tmp 3) (.tmp 4) rfl w.heap.size (.slice (some ⟨w.heap.size + 1, 0, none⟩) 1 1) 1 [0] rfl HZ.out a n c b rfl HE.out (by have := HNN.out; omega) (by simp; omega) ?_; intro v' w' hown hg; obtain ⟨a2, c2, rfl⟩ := own_slice hown; have D := Lib.hid (H0.out.grown hg (by simp [Value.ownBlock])); have hbw := Lib.hid ((HBEL.out _ _).grown hg (HBEL.out _ _).size (by intro x hx; injection hx with hx; simp at hx; omega)); have HO := Lib.hid hown; clear hown hg) | (refine wpList_store_row (P := Tryz.prog) rfl 45 (.tmp 2) (.tmp 6) rfl w.heap.size #[.int .u8 3, .slice a2 (1 + n) c2, .slice none 0 0] rfl rfl 45 _ D.out info25 rfl (all_item _ _ _ _ _ _ _) ?_))
  have D3 := D.out.setRow [.int .u8 3, .slice a2 (1 + n) c2, .slice none 0 0]
  have hO2 := own_set HO.out D.out (by decide) #[.int .u8 3, .slice a2 (1 + n) c2, .slice none 0 0]
  refine bodyPost_ret (results_one Tryz.results81 _ _ w.heap.size 45 _ (0, 0) _ rfl D3 Tryz.underlying45 rfl info25) rfl ?_
  have hl1 : (0 :: b).length = 1 + n := by simp; omega
  exact ItR.nil (by decide) hl1 (by have := HNN.out; omega) (dep_own hO2 H8.out (by have := HNN.out; omega)) (below_setRow' hbw.out (Nat.le_refl _) _)
set_option maxHeartbeats 4000000 in
theorem OfOID_d (w : World) (a : Option Addr) (n c : Nat) (l : List Nat) (hin : WIn w a n c l) : Calls Tryz.prog 112 #[.slice a n c] w (OfOR (ofE l) w) := by
  have B0 := Lib.hid (Blk.new w 45 [.int .u8 0, .slice none 0 0, .slice none 0 0])
  have BEL := Lib.hid ((Below.refl w.heap.size w).alloc (Nat.le_refl _) (.cells #[.int .u8 0, .slice none 0 0, .slice none 0 0] 45))
  have hs1 : (w.alloc (.cells #[.int .u8 0, .slice none 0 0, .slice none 0 0] 45)).heap.size = w.heap.size + 1 := by simp
  have hC := figures_any (w.alloc (.cells #[.int .u8 0, .slice none 0 0, .slice none 0 0] 45)) a n c l (hin.below BEL.out)
  by_cases hok : oidOk l = true
  · have HC := Lib.hid (hC.mono (fun e w' h => (by
      rcases h.2 with h2 | h2
      · rw [hok] at h2; cases h2.1
      · obtain ⟨a', c', h3, h4⟩ := h2.2; exact ⟨a', c', h3, h4, h.1⟩ : ∃ a' c', e = .returned (.tuple #[.slice a' (fl l).length c', .bool true]) ∧ WIn w' a' (fl l).length c' (fl l) ∧ Below (w.alloc (.cells #[.int .u8 0, .slice none 0 0, .slice none 0 0] 45)).heap.size (w.alloc (.cells #[.int .u8 0, .slice none 0 0, .slice none 0 0] 45)) w')))
    have HX := Lib.hid (show ofE l = .ok (figs (fl l)) by simp only [ofE]; rw [if_pos hok])
    have hF := oidOk_fl hok
    have hfm := hF.2.2.1
    have hf19 := hF.2.1
    have HFM := Lib.hid hfm
    clear hC hF hfm hin
    obtain ⟨F, hfl⟩ : ∃ F, fl l = F := ⟨_, rfl⟩
    rw [hfl] at HC HX HFM hf19
    clear hfl
    obtain ⟨m, hm⟩ : ∃ m, F.length = m := ⟨_, rfl⟩
    have HM := Lib.hid hm
    rw [hm] at HC hf19
    clear hm
    go_enter Tryz.func112, Tryz.ntmps112
    go_wp2_with (go_at_call 115; refine HC.out.mono ?_; rintro e w1 ⟨a1, c1, rfl, hw1, hb1⟩; have HW := Lib.hid hw1; have HB := Lib.hid (B0.out.below' hb1); have H1 := Lib.hid (BEL.out.trans (hb1.mono BEL.out.size)); have hsz := hb1.size; clear hw1)
    have hs2 : w.heap.size + 1 ≤ w1.heap.size := by rw [hs1] at hsz; exact hsz
    have HS2 := Lib.hid hs2
    clear hsz hs2 hs1 hb1
    go_loopw [5, 7, 18] (fun b f i wr => ∃ q, q ≤ m ∧ i = .int .i64 (q : Nat) ∧ wr.ownsRow w1.heap.size 5 1 b (figs (F.take q)).length (bytesV (figs (F.take q))) ∧ Below w1.heap.size w1 wr) (fun _ _ i _ => m - (intOf i).toNat)
    case atStart => exact ⟨0, Nat.zero_le _, rfl, World.ownsRow_nil _ _ _ _, Below.refl _ _⟩
    case round =>
      obtain ⟨q, hq, rfl, hown, hbel⟩ := hrel
      have HO := Lib.hid hown
      have HBL := Lib.hid hbel
      have HWR := Lib.hid (HW.out.below hbel)
      have hlq : (figs (F.take q)).length ≤ 200 := by
        have h1 := figs_lenK (F := F.take q) (fun v hv => HFM.out v (List.mem_of_mem_take hv))
        have h2 : (F.take q).length ≤ q := by simp; omega
        omega
      obtain ⟨ab, cb, rfl⟩ := own_slice hown
      clear hown hbel
      by_cases hqm : q < m
      · have hqi : (q : Int) < (m : Int) := by omega
        have hxm := HFM.out (F.getD q 0) (by rw [List.getD_eq_getElem?_getD, List.getElem?_eq_getElem (by rw [HM.out]; exact hqm)]; exact List.getElem_mem _)
        obtain ⟨B5, o5, rfl, hc5⟩ := HWR.out.2.2.2.2.2.2.resolve_left (by omega)
        have cq := hc5 q hqm
        have HT := Lib.hid (figs_takeK F q (by rw [HM.out]; exact hqm))
        have H8 := Lib.hid (fig_lt (F.getD q 0))
        have h5 := fig_len hxm
        have HG := Lib.hid (fun W => groups_any W (F.getD q 0) hxm)
        clear hc5 hxm
        generalize F.getD q 0 = y at *
        obtain ⟨k, hk⟩ : ∃ k, (figs (F.take q)).length = k := ⟨_, rfl⟩
        have HK := Lib.hid hk
        rw [hk] at HO hlq ⊢
        clear hk
        go_wp2_with (first | (go_at_call 116; (refine (HG.out _).mono ?_); rintro e w3 ⟨v3, rfl, ho3, hb3⟩; obtain ⟨a3, c3, rfl⟩ := own_slice ho3; obtain ⟨a3', c3', e3, hi3, _⟩ := own_in ho3 H8.out (by omega); injection e3 with e31 e32 e33; subst e31 e33; have HI3 := Lib.hid hi3; have HB3 := Lib.hid (HBL.out.trans (hb3.mono HBL.out.size)); have HO3 := Lib.hid (own_below HO.out hb3); clear ho3 hi3) | (at_builtin; refine wpList_append_bytes _ rfl (.tmp 22) (.tmp 24) rfl w1.heap.size (.slice ab k cb) k (figs (F.take q)) rfl HO3.out a3 (fig y).length c3 (fig y) rfl HI3.out (by omega) HB3.out.size ?_; intro v4 w4 ho4 hg4))
        have hb4 : Below w1.heap.size w1 w4 := HB3.out.grown hg4 HB3.out.size (fun x hx => (HO3.out.lt x hx).1)
        have e5 : k + (fig y).length = (figs (F.take (q + 1))).length := by rw [HT.out, List.length_append, HK.out]
        rw [e5, ← HT.out] at ho4
        go_roundw
        case rel => exact ⟨q + 1, by omega, by go_num, ho4, hb4⟩
        case measure => simp [intOf]; omega
      · have hqi : ¬ (q : Int) < (m : Int) := by omega
        have HE := Lib.hid (show F.take q = F by rw [List.take_of_length_le (by rw [HM.out]; omega)])
        rw [HE.out] at HO hlq ⊢
        obtain ⟨k, hk⟩ : ∃ k, (figs F).length = k := ⟨_, rfl⟩
        have HK := Lib.hid hk
        rw [hk] at HO hlq ⊢
        have HB2 := Lib.hid (HB.out.below' HBL.out)
        clear hk
        go_wp2_with (first | (refine wpList_store_row (P := Tryz.prog) rfl 45 (.tmp 2) (.tmp 28) rfl w.heap.size #[.int .u8 6, .slice ab k cb, .slice none 0 0] rfl rfl 45 _ HB2.out info25 rfl (all_item _ _ _ _ _ _ _) ?_))
        have D3 := HB2.out.setRow [.int .u8 6, .slice ab k cb, .slice none 0 0]
        refine bodyPost_ret (results_two Tryz.results112 _ _ w.heap.size 45 _ (0, 0) _ _ rfl rfl D3 Tryz.underlying45 rfl info25) rfl ?_
        have hO2 := own_set HO.out HB2.out (by decide) #[.int .u8 6, .slice ab k cb, .slice none 0 0]
        exact OfOR.good HX.out (below_setRow' (H1.out.trans (HBL.out.mono H1.out.size)) (Nat.le_refl _) _) HK.out (by omega) ((dep_own hO2 (figs_lt F) (by omega)).mono (fun j hj _ => by have := HS2.out; omega))
  · have hok2 : oidOk l = false := by simpa using hok
    have HC := Lib.hid (hC.mono (fun e w' h => (by
      rcases h.2 with h2 | h2
      · exact ⟨h2.2, h.1⟩
      · exact absurd h2.1 hok : e = .returned (.tuple #[.slice none 0 0, .bool false]) ∧ Below (w.alloc (.cells #[.int .u8 0, .slice none 0 0, .slice none 0 0] 45)).heap.size (w.alloc (.cells #[.int .u8 0, .slice none 0 0, .slice none 0 0] 45)) w')))
    have HX := Lib.hid (show ofE l = .error 127 by simp only [ofE]; rw [if_neg hok])
    clear hC hok hok2 hin
    go_enter Tryz.func112, Tryz.ntmps112
    go_wp2_with (first | (go_at_call 115; refine HC.out.mono ?_; rintro e w1 ⟨rfl, hb1⟩; have HB := Lib.hid (B0.out.below' hb1); have H1 := Lib.hid (BEL.out.trans (hb1.mono BEL.out.size))) | (refine wpList_store_row (P := Tryz.prog) rfl 45 (.tmp 2) (.tmp 15) rfl w.heap.size #[.int .u8 0, .slice none 0 0, .slice none 0 0] rfl rfl 45 _ HB.out info25 rfl (all_item _ _ _ _ _ _ _) ?_))
    have D3 := HB.out.setRow [.int .u8 0, .slice none 0 0, .slice none 0 0]
    refine bodyPost_ret (results_two Tryz.results112 _ _ w.heap.size 45 _ (0, 0) _ _ rfl rfl D3 Tryz.underlying45 rfl info25) rfl ?_
    exact OfOR.err HX.out (below_setRow' H1.out (Nat.le_refl _) _)
end Go.Proofs.YtbabpmncdphnjaaGreat
namespace Go.Proofs.YtbabpmncdphnjaaGreat
open Go.RowKit
set_option linter.unusedVariables false
set_option maxRecDepth 100000
set_option linter.unusedSimpArgs false
abbrev FB (base : Nat) : Nat → Prop := fun j => base ≤ j
def ItB (base t : Nat) (b : List Nat) (k : Tr) (w : World) (e : Ending) (w' : World) : Prop :=
  ∃ a n c a' m c', b.length = n ∧ k.len = m ∧ e = .returned (itV t a n c a' m c') ∧ Dep (FB base) w' (fun x => ItIn x t a c a' c' b k) ∧ Below w.heap.size w w'
theorem ItR.get {D : Nat → Prop} {t : Nat} {b : List Nat} {k : Tr} {w : World} {e : Ending} {w' : World} (h : ItR D t b k w e w') {base : Nat} (hb : base ≤ w.heap.size) (hD : ∀ j, D j → base ≤ j) : ItB base t b k w e w' := by
  obtain ⟨a, n, c, a', m, c', h4, h5, h1, h2, h3⟩ := h
  exact ⟨a, n, c, a', m, c', h4, h5, h1, h2.mono (fun j hj _ => hj.elim (hD j) (fun h => Nat.le_trans hb h)), h3⟩
theorem itB {t : Nat} {b : List Nat} {k : Tr} {D : Nat → Prop} {f : FuncId} {args : Array Value} {w : World} (h : Calls Tryz.prog f args w (ItR D t b k w)) {base : Nat} (hb : base ≤ w.heap.size) (hD : ∀ j, D j → base ≤ j) : Calls Tryz.prog f args w (ItB base t b k w) := h.mono fun e w' h => h.get hb hD
theorem ItB.up {base base' t : Nat} {b : List Nat} {k : Tr} {w w1 : World} {e : Ending} {w' : World} {g : Nat} (h : ItB base t b k w e w') (hb : base' ≤ base) : ItB base' t b k w e w' := by
  obtain ⟨a, n, c, a', m, c', h4, h5, h1, h2, h3⟩ := h
  exact ⟨a, n, c, a', m, c', h4, h5, h1, h2.mono (fun j hj _ => Nat.le_trans hb hj), h3⟩
set_option maxHeartbeats 4000000 in
theorem item_d (D : Nat → Prop) (t : Nat) (ti : Int) (hti : (t : Int) = ti) (ht : t < 256) (w : World) (a : Option Addr) (n c : Nat) (k : Tr) (hn : k.len = n) (h : Dep D w (fun x => KIn x a c k)) : Calls Tryz.prog 83 #[.int .u8 ti, .slice a n c] w (ItR D t [] k w) := by
  subst hn hti
  have B0 := Lib.hid (Blk.new w 45 [.int .u8 0, .slice none 0 0, .slice none 0 0])
  have BEL := Lib.hid ((Below.refl _ w).alloc (Nat.le_refl _) (.cells #[.int .u8 0, .slice none 0 0, .slice none 0 0] 45))
  have HK := Lib.hid h
  clear h
  go_enter Tryz.func83, Tryz.ntmps83
  go_wp2_with (first | (refine wpList_store_row (P := Tryz.prog) rfl 45 (.tmp 4) (.tmp 7) rfl w.heap.size #[.int .u8 (t : Nat), .slice none 0 0, .slice a k.len c] rfl rfl 45 _ B0.out info25 rfl (all_item _ _ _ _ _ _ _) ?_))
  have D3 := B0.out.setRow [.int .u8 (t : Nat), .slice none 0 0, .slice a k.len c]
  refine bodyPost_ret (results_one Tryz.results83 _ _ w.heap.size 45 _ (0, 0) _ rfl D3 Tryz.underlying45 rfl info25) rfl ?_
  refine ⟨none, 0, 0, a, k.len, c, rfl, rfl, rfl, ?_, below_setRow' BEL.out (Nat.le_refl _) _⟩
  have h1 := (HK.out.cut BEL.out).row w.heap.size #[.int .u8 (t : Nat), .slice none 0 0, .slice a k.len c] (fun h => Nat.lt_irrefl _ h.2)
  exact (h1.map (fun x hx => (⟨ht, bin_empty x none 0 (by simp [maxLen]) (fun _ => rfl), hx⟩ : ItIn x t none 0 a c [] k))).mono (fun j hj _ => .inl hj.1)
theorem item_b {base : Nat} (t : Nat) (ti : Int) (hti : (t : Int) = ti) (ht : t < 256) (w : World) (a : Option Addr) (n c : Nat) (k : Tr) (hn : k.len = n) (hb : base ≤ w.heap.size) (h : Dep (FB base) w (fun x => KIn x a c k)) : Calls Tryz.prog 83 #[.int .u8 ti, .slice a n c] w (ItB base t [] k w) :=
  itB (item_d (FB base) t ti hti ht w a n c k hn h) hb (fun _ h => h)
theorem fin_item {t : Nat} {b : List Nat} {k : Tr} {w w2 : World} {a a' : Option Addr} {n m c c' : Nat} (hn : b.length = n) (hm : k.len = m) (hs : w.heap.size + 1 ≤ w2.heap.size) (hd : Dep (FB (w.heap.size + 1)) w2 (fun x => ItIn x t a c a' c' b k)) (hb : Below w.heap.size w w2) (cs : Array Value) :
    ItR NoD t b k w (.returned (itV t a n c a' m c')) (w2.setRow w.heap.size cs) :=
  ⟨a, n, c, a', m, c', hn, hm, rfl, (hd.row w.heap.size cs (fun h => by have : w.heap.size + 1 ≤ w.heap.size := h; omega)).mono (fun j (hj : w.heap.size + 1 ≤ j) _ => .inr (by omega)), below_setRow' hb (Nat.le_refl _) cs⟩
theorem lit_b {base : Nat} {w : World} {T : Tr} {xs : List Value} {n : Nat} (h : Dep (FB base) w (fun x => Its x T xs)) (hn : T.len = n) (hl : n ≤ 1000) (hb : base ≤ w.heap.size) : Dep (FB base) (w.alloc (.cells xs.toArray 45)) (fun x => KIn x (some ⟨w.heap.size, 0, none⟩) n T) :=
  (dep_lit h hn hl (Nat.le_refl _) (by simp) (fun j _ hj => Below.heap_alloc w _ j hj) (Blk.new w 45 xs)).mono (fun j hj _ => by rcases hj with hj | rfl; exact hj.1; exact hb)
theorem cons_b {base : Nat} {w : World} {t : Nat} (ti : Int) (hti : (t : Int) = ti) {b : List Nat} {k r : Tr} {xr : List Value} {a a' : Option Addr} {n m c c' : Nat} (hn : b.length = n) (hm : k.len = m) (h : Dep (FB base) w (fun x => ItIn x t a c a' c' b k)) (hr : Dep (FB base) w (fun x => Its x r xr)) :
    Dep (FB base) w (fun x => Its x (.node t b k r) (.int .u8 ti :: .slice a n c :: .slice a' m c' :: xr)) := by
  subst hti; exact (dep_cons hn hm h hr).mono (fun j hj _ => by rcases hj with hj | hj <;> exact hj)
theorem nil_b {base : Nat} {w : World} : Dep (FB base) w (fun x => Its x .nil []) := fun _ _ => rfl
theorem cmust_ok (c : Int) (w : World) : Calls Tryz.prog 54 #[.bool true, .int .i64 c] w fun e w' => e = .returned (.tuple #[]) ∧ w = w' := by
  go_enter Tryz.func54, Tryz.ntmps54
  go_wp2
  go_end0
  exact ⟨rfl, rfl⟩
theorem cmust_bad (c : Int) (w : World) : Calls Tryz.prog 54 #[.bool false, .int .i64 c] w fun e w' => e = .panicked [{ v := .iface 27 (.int .i64 c), recovered := false }] ∧ w = w' := by
  go_enter Tryz.func54, Tryz.ntmps54
  go_wp2
  exact ⟨rfl, rfl, rfl⟩
theorem seq_d (D : Nat → Prop) (w : World) (a : Option Addr) (n c : Nat) (k : Tr) (hn : k.len = n) (h : Dep D w (fun x => KIn x a c k)) : Calls Tryz.prog 80 #[.slice a n c] w (ItR D 48 [] k w) := by
  have B0 := Lib.hid (Blk.new w 45 [.int .u8 0, .slice none 0 0, .slice none 0 0])
  have BEL := Lib.hid ((Below.refl _ w).alloc (Nat.le_refl _) (.cells #[.int .u8 0, .slice none 0 0, .slice none 0 0] 45))
  have HK := Lib.hid (h.cut BEL.out)
  clear h
  go_enter Tryz.func80, Tryz.ntmps80
  generalize hW1 : w.alloc (.cells #[.int .u8 0, .slice none 0 0, .slice none 0 0] 45) = W1 at *
  go_wp2_with (first | (go_at_call 83; ((with_reducible refine (item_d _ 48 48 rfl (by decide) W1 a n c k hn HK.out).mono ?_); rintro e w2 ⟨a2, n2, c2, b2, m2, d2, hn2, hm2, rfl, hd2, hb2⟩); have HN2 := Lib.hid hn2; have HM2 := Lib.hid hm2; have B0 := Lib.hid (B0.out.below' hb2); have BEL := Lib.hid (BEL.out.trans (Below.mono hb2 BEL.out.size)); have HD2 := Lib.hid hd2; have HB2 := Lib.hid hb2; clear hd2 hb2 hn2 hm2) | (refine wpList_store_row (P := Tryz.prog) rfl 45 (.tmp 2) (.tmp 4) rfl w.heap.size #[.int .u8 48, .slice a2 n2 c2, .slice b2 m2 d2] rfl rfl 45 _ B0.out info25 rfl (all_item _ _ _ _ _ _ _) ?_))
  have D3 := B0.out.setRow [.int .u8 48, .slice a2 n2 c2, .slice b2 m2 d2]
  refine bodyPost_ret (results_one Tryz.results80 _ _ w.heap.size 45 _ (0, 0) _ rfl D3 Tryz.underlying45 rfl info25) rfl ?_
  have hs : w.heap.size + 1 = W1.heap.size := by rw [← hW1]; simp
  refine ⟨a2, n2, c2, b2, m2, d2, HN2.out, HM2.out, rfl, (HD2.out.row w.heap.size _ (fun h => ?_)).mono (fun j hj _ => ?_), below_setRow' BEL.out (Nat.le_refl _) _⟩
  · rcases h with h | h
    · exact Nat.lt_irrefl _ h.2
    · omega
  · rcases hj with hj | hj
    · exact .inl hj.1
    · exact .inr (by omega)
theorem seq_b {base : Nat} (w : World) (a : Option Addr) (n c : Nat) (k : Tr) (hn : k.len = n) (hb : base ≤ w.heap.size) (h : Dep (FB base) w (fun x => KIn x a c k)) : Calls Tryz.prog 80 #[.slice a n c] w (ItB base 48 [] k w) :=
  itB (seq_d (FB base) w a n c k hn h) hb (fun _ h => h)
end Go.Proofs.YtbabpmncdphnjaaGreat
namespace Go.Proofs.YtbabpmncdphnjaaGreat
open Go.RowKit
set_option linter.unusedVariables false
set_option maxRecDepth 100000
set_option linter.unusedSimpArgs false
theorem bytesRow_at (s : ByteArray) (cap i : Nat) (hi : i < s.size) : (bytesRow s cap)[i]? = some (.int .u8 ((strL s).getD i 0 : Nat)) := by
  unfold bytesRow
  have hi' : i < s.data.size := hi
  rw [Array.getElem?_append_left (by simpa using hi')]
  rw [Array.getElem?_map, Array.getElem?_eq_getElem hi', ← strL_at s i hi]
  rfl
theorem strL_len (s : ByteArray) : (strL s).length = s.size := by simp [strL]
theorem strL_all (s : ByteArray) : ∀ x ∈ strL s, x < 256 := fun x hx => by obtain ⟨u, _, rfl⟩ := List.mem_map.1 hx; exact u.toNat_lt
theorem str_in {x : World} {g cap : Nat} {s : ByteArray} {fr : Nat × Nat} (h : x.heap[g]? = some (.cells (bytesRow s cap) 5 fr)) (hc : s.size ≤ cap) (hm : cap ≤ maxLen) (hs : s.size ≤ 140737488355328) : BIn x (some ⟨g, 0, none⟩) s.size cap (strL s) := by
  refine ⟨⟨strL_len s, by simp only [maxLen]; omega, strL_all s, .inr ⟨g, 0, rfl, fun i hi => ?_⟩⟩, hc, hm, hs, fun h => by cases h⟩
  rw [Nat.zero_add, cell_of_row x g i _ _ _ h]
  exact bytesRow_at s cap i hi
set_option maxHeartbeats 4000000 in
theorem text_d (t : Nat) (ti : Int) (hti : (t : Int) = ti) (ht : t < 256) (s : ByteArray) (b : List Nat) (hb : strL s = b) (hs : s.size ≤ 140737488355328) (w : World) : Calls Tryz.prog 99 #[.int .u8 ti, .string s] w (ItR NoD t b .nil w) := by
  subst hti
  have hcv := run_bytes_of_string (P := Tryz.prog) (w.alloc (.cells #[.int .u8 0, .slice none 0 0, .slice none 0 0] 45)) 9 22 5 s Tryz.underlying9 Tryz.underlying22 Tryz.underlying5
  have hg1 : s.size ≤ grownCap (w.alloc (.cells #[.int .u8 0, .slice none 0 0, .slice none 0 0] 45)) s.size 0 5 := grownCap_ge _ _ _ _
  have hg2 : grownCap (w.alloc (.cells #[.int .u8 0, .slice none 0 0, .slice none 0 0] 45)) s.size 0 5 ≤ maxLen := grownCap_le_maxLen _ _ _ _ (by simp only [maxLen]; omega)
  generalize grownCap (w.alloc (.cells #[.int .u8 0, .slice none 0 0, .slice none 0 0] 45)) s.size 0 5 = cp at *
  have HS := Lib.hid hs
  have B0 := Lib.hid (((Blk.new w 45 [.int .u8 0, .slice none 0 0, .slice none 0 0]).drew).alloc (.cells (bytesRow s cp) 5 ((bytesRow s cp).size, (bytesRow s cp).size + 1)))
  have BEL := Lib.hid ((((Below.refl _ w).alloc (Nat.le_refl _) (.cells #[.int .u8 0, .slice none 0 0, .slice none 0 0] 45)).drew).alloc (by simp) (.cells (bytesRow s cp) 5 ((bytesRow s cp).size, (bytesRow s cp).size + 1)))
  have HX := Lib.hid (show ((w.alloc (.cells #[.int .u8 0, .slice none 0 0, .slice none 0 0] 45)).drew.alloc (.cells (bytesRow s cp) 5 ((bytesRow s cp).size, (bytesRow s cp).size + 1))).heap[w.heap.size + 1]? = some (.cells (bytesRow s cp) 5 ((bytesRow s cp).size, (bytesRow s cp).size + 1)) by
    have := heap_alloc_new (w.alloc (.cells #[.int .u8 0, .slice none 0 0, .slice none 0 0] 45)).drew (.cells (bytesRow s cp) 5 ((bytesRow s cp).size, (bytesRow s cp).size + 1))
    simpa using this)
  have HG := Lib.hid hg1
  have HG2 := Lib.hid hg2
  have HB := Lib.hid hb
  have hz : (w.alloc (.cells #[.int .u8 0, .slice none 0 0, .slice none 0 0] 45)).heap.size = w.heap.size + 1 := by simp
  rw [hz] at hcv
  clear hg1 hg2 hs hb
  go_enter Tryz.func99, Tryz.ntmps99
  generalize hW2 : (w.alloc (.cells #[.int .u8 0, .slice none 0 0, .slice none 0 0] 45)).drew.alloc (.cells (bytesRow s cp) 5 ((bytesRow s cp).size, (bytesRow s cp).size + 1)) = W2 at *
  go_wp2_with (first | (refine wpList_store_row (P := Tryz.prog) rfl 45 (.tmp 4) (.tmp 8) rfl w.heap.size #[.int .u8 (t : Nat), .slice (some ⟨w.heap.size + 1, 0, none⟩) s.size cp, .slice none 0 0] rfl rfl 45 _ B0.out info25 rfl (all_item _ _ _ _ _ _ _) ?_))
  have D3 := B0.out.setRow [.int .u8 (t : Nat), .slice (some ⟨w.heap.size + 1, 0, none⟩) s.size cp, .slice none 0 0]
  refine bodyPost_ret (results_one Tryz.results99 _ _ w.heap.size 45 _ (0, 0) _ rfl D3 Tryz.underlying45 rfl info25) rfl ?_
  have hlen : b.length = s.size := by rw [← HB.out]; exact strL_len s
  refine fin_item hlen rfl (by have := HX.out; have h2 := (Array.getElem?_eq_some_iff.1 this).1; omega) (fun w'' hw => ?_) BEL.out _
  have h2 := (Array.getElem?_eq_some_iff.1 HX.out).1
  have h3 := (hw _ (Nat.le_refl _) h2).trans HX.out
  have h4 := str_in h3 HG.out HG2.out HS.out
  rw [HB.out] at h4
  exact ⟨ht, by rw [hlen]; exact h4, KIn.nil w''⟩
set_option maxHeartbeats 4000000 in
theorem passedI_ok (v0 : Int) (a a' : Option Addr) (n c n' c' : Nat) (w : World) : Calls Tryz.prog 32 #[.agg #[.int .u8 v0, .slice a n c, .slice a' n' c'], .int .i64 0] w fun e w' => e = .returned (.agg #[.int .u8 v0, .slice a n c, .slice a' n' c']) ∧ Below w.heap.size w w' := by
  have H1 := Lib.hid ((Blk.new w 45 [.int .u8 v0, .slice a n c, .slice a' n' c']).alloc (.cells #[.int .u8 0, .slice none 0 0, .slice none 0 0] 45))
  have H2 := Lib.hid (Blk.new2 w (.cells #[.int .u8 v0, .slice a n c, .slice a' n' c'] 45) 45 [.int .u8 0, .slice none 0 0, .slice none 0 0])
  have BEL := Lib.hid (((Below.refl _ w).alloc (Nat.le_refl _) (.cells #[.int .u8 v0, .slice a n c, .slice a' n' c'] 45)).alloc (by simp) (.cells #[.int .u8 0, .slice none 0 0, .slice none 0 0] 45))
  go_enter Tryz.func32, Tryz.ntmps32
  go_wp2_with (first | (go_at_call 54; (with_reducible refine (cmust_ok _ _).mono ?_); rintro e w2 ⟨rfl, rfl⟩) | (refine wpList_load_row (P := Tryz.prog) rfl 45 (.tmp 2) rfl w.heap.size rfl 45 _ _ _ H1.out Tryz.underlying45 rfl info25 ?_) | (refine wpList_store_row (P := Tryz.prog) rfl 45 (.tmp 4) (.tmp 9) rfl (w.heap.size + 1) #[.int .u8 v0, .slice a n c, .slice a' n' c'] rfl rfl 45 _ H2.out info25 rfl (all_item _ _ _ _ _ _ _) ?_))
  have D3 := H2.out.setRow [.int .u8 v0, .slice a n c, .slice a' n' c']
  refine bodyPost_ret (results_one Tryz.results32 _ _ (w.heap.size + 1) 45 _ (0, 0) _ rfl D3 Tryz.underlying45 rfl info25) rfl ?_
  exact ⟨rfl, below_setRow' BEL.out (Nat.le_succ _) _⟩
set_option maxHeartbeats 4000000 in
theorem passedI_bad (v0 : Int) (a a' : Option Addr) (n c n' c' : Nat) (x : Nat) (hx : x ≠ 0) (w : World) : Calls Tryz.prog 32 #[.agg #[.int .u8 v0, .slice a n c, .slice a' n' c'], .int .i64 (x : Nat)] w fun e w' => e = boom x ∧ Below w.heap.size w w' := by
  have BEL := Lib.hid (((Below.refl _ w).alloc (Nat.le_refl _) (.cells #[.int .u8 v0, .slice a n c, .slice a' n' c'] 45)).alloc (by simp) (.cells #[.int .u8 0, .slice none 0 0, .slice none 0 0] 45))
  have hz : ((x : Int) == 0) = false := by simp; omega
  have hz2 : ¬ (x : Int) = 0 := by omega
  go_enter Tryz.func32, Tryz.ntmps32
  go_wp2_with (first | (go_at_call 54; (with_reducible refine (cmust_bad _ _).mono ?_); rintro e w2 ⟨rfl, rfl⟩))
  all_goals exact ⟨rfl, rfl, BEL.out⟩
theorem passedB_ok (v : Option Addr × Nat × Nat) (w : World) : Calls Tryz.prog 37 #[.slice v.1 v.2.1 v.2.2, .int .i64 0] w fun e w' => e = .returned (.slice v.1 v.2.1 v.2.2) ∧ w = w' := by
  go_enter Tryz.func37, Tryz.ntmps37
  go_wp2_with (first | (go_at_call 54; (with_reducible refine (cmust_ok _ _).mono ?_); rintro e w2 ⟨rfl, rfl⟩))
  go_ret
  exact ⟨rfl, rfl⟩
theorem passedB_bad (v : Option Addr × Nat × Nat) (x : Nat) (hx : x ≠ 0) (w : World) : Calls Tryz.prog 37 #[.slice v.1 v.2.1 v.2.2, .int .i64 (x : Nat)] w fun e w' => e = boom x ∧ w = w' := by
  have hz : ((x : Int) == 0) = false := by simp; omega
  have hz2 : ¬ (x : Int) = 0 := by omega
  go_enter Tryz.func37, Tryz.ntmps37
  go_wp2_with (first | (go_at_call 54; (with_reducible refine (cmust_bad _ _).mono ?_); rintro e w2 ⟨rfl, rfl⟩))
  all_goals exact ⟨rfl, rfl, rfl⟩
theorem formedK_ok (v : Option Addr × Nat × Nat) (w : World) : Calls Tryz.prog 59 #[.slice v.1 v.2.1 v.2.2, .int .i64 0] w fun e w' => e = .returned (.slice v.1 v.2.1 v.2.2) ∧ w = w' := by
  go_enter Tryz.func59, Tryz.ntmps59
  go_wp2_with (first | (go_at_call 54; (with_reducible refine (cmust_ok _ _).mono ?_); rintro e w2 ⟨rfl, rfl⟩))
  go_ret
  exact ⟨rfl, rfl⟩
theorem formedK_bad (v : Option Addr × Nat × Nat) (x : Nat) (hx : x ≠ 0) (w : World) : Calls Tryz.prog 59 #[.slice v.1 v.2.1 v.2.2, .int .i64 (x : Nat)] w fun e w' => e = boom 131 ∧ w = w' := by
  have hz : ((x : Int) == 0) = false := by simp; omega
  have hz2 : ¬ (x : Int) = 0 := by omega
  go_enter Tryz.func59, Tryz.ntmps59
  go_wp2_with (first | (go_at_call 54; (with_reducible refine (cmust_bad _ _).mono ?_); rintro e w2 ⟨rfl, rfl⟩))
  all_goals exact ⟨rfl, rfl, rfl⟩
theorem formedB_ok (v : Option Addr × Nat × Nat) (w : World) : Calls Tryz.prog 69 #[.slice v.1 v.2.1 v.2.2, .int .i64 0] w fun e w' => e = .returned (.slice v.1 v.2.1 v.2.2) ∧ w = w' := by
  go_enter Tryz.func69, Tryz.ntmps69
  go_wp2_with (first | (go_at_call 54; (with_reducible refine (cmust_ok _ _).mono ?_); rintro e w2 ⟨rfl, rfl⟩))
  go_ret
  exact ⟨rfl, rfl⟩
theorem formedU_ok (v : Int) (w : World) : Calls Tryz.prog 66 #[.int .u64 v, .int .i64 0] w fun e w' => e = .returned (.int .u64 v) ∧ w = w' := by
  go_enter Tryz.func66, Tryz.ntmps66
  go_wp2_with (first | (go_at_call 54; (with_reducible refine (cmust_ok _ _).mono ?_); rintro e w2 ⟨rfl, rfl⟩))
  go_ret
  exact ⟨rfl, rfl⟩
set_option maxHeartbeats 4000000 in
theorem formedI_ok (v0 : Int) (a a' : Option Addr) (n c n' c' : Nat) (w : World) : Calls Tryz.prog 61 #[.agg #[.int .u8 v0, .slice a n c, .slice a' n' c'], .int .i64 0] w fun e w' => e = .returned (.agg #[.int .u8 v0, .slice a n c, .slice a' n' c']) ∧ Below w.heap.size w w' := by
  have H1 := Lib.hid ((Blk.new w 45 [.int .u8 v0, .slice a n c, .slice a' n' c']).alloc (.cells #[.int .u8 0, .slice none 0 0, .slice none 0 0] 45))
  have H2 := Lib.hid (Blk.new2 w (.cells #[.int .u8 v0, .slice a n c, .slice a' n' c'] 45) 45 [.int .u8 0, .slice none 0 0, .slice none 0 0])
  have BEL := Lib.hid (((Below.refl _ w).alloc (Nat.le_refl _) (.cells #[.int .u8 v0, .slice a n c, .slice a' n' c'] 45)).alloc (by simp) (.cells #[.int .u8 0, .slice none 0 0, .slice none 0 0] 45))
  go_enter Tryz.func61, Tryz.ntmps61
  go_wp2_with (first | (go_at_call 54; (with_reducible refine (cmust_ok _ _).mono ?_); rintro e w2 ⟨rfl, rfl⟩) | (refine wpList_load_row (P := Tryz.prog) rfl 45 (.tmp 2) rfl w.heap.size rfl 45 _ _ _ H1.out Tryz.underlying45 rfl info25 ?_) | (refine wpList_store_row (P := Tryz.prog) rfl 45 (.tmp 4) (.tmp 8) rfl (w.heap.size + 1) #[.int .u8 v0, .slice a n c, .slice a' n' c'] rfl rfl 45 _ H2.out info25 rfl (all_item _ _ _ _ _ _ _) ?_))
  have D3 := H2.out.setRow [.int .u8 v0, .slice a n c, .slice a' n' c']
  refine bodyPost_ret (results_one Tryz.results61 _ _ (w.heap.size + 1) 45 _ (0, 0) _ rfl D3 Tryz.underlying45 rfl info25) rfl ?_
  exact ⟨rfl, below_setRow' BEL.out (Nat.le_succ _) _⟩
end Go.Proofs.YtbabpmncdphnjaaGreat
namespace Go.Proofs.YtbabpmncdphnjaaGreat
open Go.RowKit
set_option linter.unusedVariables false
set_option maxRecDepth 100000
set_option linter.unusedSimpArgs false
def oidB (l : List Nat) : List Nat := figs (fl l)
def ouri (l : List Nat) : List Nat := [1, 3, 6, 1, 4, 1, 4128] ++ l
set_option maxRecDepth 100000 in
theorem ours_any (w : World) (a : Option Addr) (n c : Nat) (l : List Nat) (hin : WIn w a n c l) (hn : n ≤ 1000) : Calls Tryz.prog 98 #[.slice a n c] w fun e w' => ∃ a' c', e = .returned (.slice a' (7 + n) c') ∧ WIn w' a' (7 + n) c' (ouri l) ∧ Below w.heap.size w w' := by
  have HO := Lib.hid (litw w [1, 3, 6, 1, 4, 1, 4128] (by decide) : (w.alloc (.cells #[.int .u64 1, .int .u64 3, .int .u64 6, .int .u64 1, .int .u64 4, .int .u64 1, .int .u64 4128] 23)).ownsRow w.heap.size 23 1 (.slice (some ⟨w.heap.size, 0, none⟩) 7 7) 7 (wordsV [1, 3, 6, 1, 4, 1, 4128]))
  have HI := Lib.hid (hin.below (Gr.alloc w (.cells #[.int .u64 1, .int .u64 3, .int .u64 6, .int .u64 1, .int .u64 4, .int .u64 1, .int .u64 4128] 23)))
  have H64 := Lib.hid hin.2.2.2.1
  have BEL := Lib.hid ((Below.refl _ w).alloc (Nat.le_refl _) (.cells #[.int .u64 1, .int .u64 3, .int .u64 6, .int .u64 1, .int .u64 4, .int .u64 1, .int .u64 4128] 23))
  clear hin
  go_enter Tryz.func98, Tryz.ntmps98
  go_wp2_with (at_builtin; refine wpList_append_words rfl (.tmp 3) (.tmp 4) rfl w.heap.size (.slice (some ⟨w.heap.size, 0, none⟩) 7 7) 7 [1, 3, 6, 1, 4, 1, 4128] rfl HO.out a n c l rfl HI.out (by omega) (by simp) ?_; intro v5 w5 ho5 hg5; have HO5 := Lib.hid ho5; have HB5 := Lib.hid (BEL.out.grown hg5 (by simp) (fun x hx => (HO.out.lt x hx).1)); obtain ⟨a5, c5, rfl⟩ := own_slice ho5; clear ho5 hg5)
  go_ret
  obtain ⟨a6, c6, e6, hin6, _⟩ := ownw_in (l := [1, 3, 6, 1, 4, 1, 4128] ++ l) HO5.out (by
    intro x hx
    rcases List.mem_append.1 hx with h | h
    · simp at h; omega
    · exact H64.out x h) (by omega)
  injection e6 with e1 _ e3
  subst e1 e3
  exact ⟨a5, c5, rfl, hin6, HB5.out⟩
theorem ofE_ok {l : List Nat} (h : oidOk l = true) : ofE l = .ok (oidB l) := by simp only [ofE, oidB]; rw [if_pos h]
theorem oid_r {l : List Nat} (hok : oidOk l = true) {w : World} {a : Option Addr} {n c : Nat} (hin : WIn w a n c l) : Calls Tryz.prog 112 #[.slice a n c] w fun e w' => ∃ a n c, (oidB l).length = n ∧ e = .returned (.tuple #[itV 6 a n c none 0 0, .int .i64 0]) ∧ Dep (fun j => w.heap.size ≤ j) w' (fun x => ItIn x 6 a c none 0 (oidB l) .nil) ∧ Below w.heap.size w w' := by
  refine (OfOID_d w a n c l hin).mono fun e w' h => ?_
  obtain ⟨hb, h⟩ := h
  have h0 : ofE l = .ok (oidB l) := ofE_ok hok
  rw [h0] at h
  obtain ⟨a, n, c, h1, h2, h3⟩ := h
  exact ⟨a, n, c, h1, h2, h3, hb⟩
set_option maxRecDepth 100000 in
set_option maxHeartbeats 4000000 in
theorem object_d (w : World) (a : Option Addr) (n c : Nat) (l : List Nat) (hok : oidOk l = true) (hin : WIn w a n c l) : Calls Tryz.prog 97 #[.slice a n c] w (ItR NoD 6 (oidB l) .nil w) := by
  have B0 := Lib.hid (Blk.new w 45 [.int .u8 0, .slice none 0 0, .slice none 0 0])
  have BEL := Lib.hid ((Below.refl _ w).alloc (Nat.le_refl _) (.cells #[.int .u8 0, .slice none 0 0, .slice none 0 0] 45))
  have HSW1 := Lib.hid (show w.heap.size + 1 ≤ (w.alloc (.cells #[.int .u8 0, .slice none 0 0, .slice none 0 0] 45)).heap.size by simp)
  have HI := Lib.hid (hin.below (Gr.alloc w (.cells #[.int .u8 0, .slice none 0 0, .slice none 0 0] 45)))
  have HOK := Lib.hid hok
  clear hin hok
  go_enter Tryz.func97, Tryz.ntmps97
  generalize hW1 : w.alloc (.cells #[.int .u8 0, .slice none 0 0, .slice none 0 0] 45) = W1 at *
  go_wp2_with (first | (go_at_call 112; go_loud ((with_reducible refine (oid_r HOK.out HI.out).mono ?_); rintro e w2 ⟨a2, n2, c2, hn2, rfl, hd2, hb2⟩; have HN2 := Lib.hid hn2; have HS2 := Lib.hid (show w.heap.size + 1 ≤ w2.heap.size by { have h1 := hb2.size; have h2 := HSW1.out; omega }); have HD2 := Lib.hid (hd2.mono (E := FB (w.heap.size + 1)) (fun j (hj : W1.heap.size ≤ j) _ => Nat.le_trans HSW1.out hj)); have B0 := Lib.hid (B0.out.below' hb2); have BEL := Lib.hid (BEL.out.trans (Below.mono hb2 BEL.out.size)); clear hn2 hd2 hb2)) | (go_at_call 32; ((with_reducible refine (passedI_ok _ _ _ _ _ _ _ _).mono ?_); rintro e w3 ⟨rfl, hb3⟩; have hg3 : Gr w2 w3 := by { first | exact hb3 | exact (Gr.alloc _ _).trans hb3 | exact ((Gr.alloc _ _).trans (Gr.alloc _ _)).trans hb3 }; have HS3 := Lib.hid (show w.heap.size + 1 ≤ w3.heap.size by { have h1 := hg3.size; have h2 := HS2.out; omega }); have B0 := Lib.hid (B0.out.below' hg3); have BEL := Lib.hid (BEL.out.trans (Below.mono hg3 BEL.out.size)); have HD2 := Lib.hid (HD2.out.below hg3); clear hg3 hb3)) | (refine wpList_store_row (P := Tryz.prog) rfl 45 (.tmp 2) (.tmp 7) rfl w.heap.size #[.int .u8 6, .slice a2 n2 c2, .slice none 0 0] rfl rfl 45 _ B0.out info25 rfl (all_item _ _ _ _ _ _ _) ?_))
  have D3 := B0.out.setRow [.int .u8 6, .slice a2 n2 c2, .slice none 0 0]
  refine bodyPost_ret (results_one Tryz.results97 _ _ w.heap.size 45 _ (0, 0) _ rfl D3 Tryz.underlying45 rfl info25) rfl ?_
  exact fin_item HN2.out rfl HS3.out HD2.out BEL.out _
abbrev algL : List Nat := ouri [2200, 1]
abbrev algK : Tr := .node 6 (oidB algL) .nil .nil
theorem alg_ok : oidOk algL = true := by decide +kernel
abbrev cnL : List Nat := [2, 5, 4, 3]
theorem cn_ok : oidOk cnL = true := by decide +kernel
theorem wlit (w : World) (l : List Nat) (cs : Array Value) (n : Nat) (hcs : (wordsV l).toArray = cs) (hl : l.length = n) (h8 : ∀ x ∈ l, x < 18446744073709551616) (hn : l.length ≤ 1000) : WIn (w.alloc (.cells cs 23)) (some ⟨w.heap.size, 0, none⟩) n n l := by
  subst hcs hl
  obtain ⟨a, c, e, hin, _⟩ := ownw_in (litw w l hn) h8 (by omega)
  injection e with e1 e2 e3
  subst e1 e3
  exact hin
set_option maxRecDepth 100000 in
set_option maxHeartbeats 4000000 in
theorem ofAlgorithm_d (w : World) : Calls Tryz.prog 63 #[] w (ItR NoD 48 [] algK w) := by
  have B0 := Lib.hid (Blk.new w 45 [.int .u8 0, .slice none 0 0, .slice none 0 0])
  have BEL := Lib.hid ((Below.refl _ w).alloc (Nat.le_refl _) (.cells #[.int .u8 0, .slice none 0 0, .slice none 0 0] 45))
  have HSW1 := Lib.hid (show w.heap.size + 1 ≤ (w.alloc (.cells #[.int .u8 0, .slice none 0 0, .slice none 0 0] 45)).heap.size by simp)
  go_enter Tryz.func63, Tryz.ntmps63
  generalize hW1 : w.alloc (.cells #[.int .u8 0, .slice none 0 0, .slice none 0 0] 45) = W1 at *
  go_wp2_with (first | (go_at_call 98; ((with_reducible refine (ours_any _ _ 2 2 [2200, 1] (wlit W1 [2200, 1] #[.int .u64 2200, .int .u64 1] 2 rfl rfl (by decide) (by decide)) (by decide)).mono ?_); rintro e w2 ⟨a2, c2, rfl, hd2, hb2⟩; have hg2 : Gr W1 w2 := by { first | exact hb2 | exact (Gr.alloc _ _).trans hb2 | exact ((Gr.alloc _ _).trans (Gr.alloc _ _)).trans hb2 }; have HS2 := Lib.hid (show w.heap.size + 1 ≤ w2.heap.size by { have h1 := hg2.size; have h2 := HSW1.out; omega }); have B0 := Lib.hid (B0.out.below' hg2); have BEL := Lib.hid (BEL.out.trans (Below.mono hg2 BEL.out.size)); have HD2 := Lib.hid hd2; clear hd2 hg2 hb2)) | (go_at_call 97; ((with_reducible refine (itB (object_d _ _ _ _ algL alg_ok HD2.out) HS2.out (fun _ h => h.elim)).mono ?_); rintro e w3 ⟨a3, n3, c3, b3, m3, d3, hn3, hm3, rfl, hd3, hb3⟩; have HN3 := Lib.hid hn3; have HM3 := Lib.hid hm3; have hg3 : Gr w2 w3 := by { first | exact hb3 | exact (Gr.alloc _ _).trans hb3 | exact ((Gr.alloc _ _).trans (Gr.alloc _ _)).trans hb3 }; have HS3 := Lib.hid (show w.heap.size + 1 ≤ w3.heap.size by { have h1 := hg3.size; have h2 := HS2.out; omega }); have B0 := Lib.hid (B0.out.below' hg3); have BEL := Lib.hid (BEL.out.trans (Below.mono hg3 BEL.out.size)); have HD3 := Lib.hid hd3; clear hd3 hn3 hm3 hg3 hb3)) | (go_at_call 80; ((with_reducible refine (seq_b _ _ 1 1 algK rfl (by have := HS3.out; simp only [World.size_alloc]; omega) (lit_b (cons_b 6 rfl HN3.out HM3.out HD3.out nil_b) rfl (by decide) HS3.out)).mono ?_); rintro e w4 ⟨a4, n4, c4, b4, m4, d4, hn4, hm4, rfl, hd4, hb4⟩; have HN4 := Lib.hid hn4; have HM4 := Lib.hid hm4; have hg4 : Gr w3 w4 := by { first | exact hb4 | exact (Gr.alloc _ _).trans hb4 | exact ((Gr.alloc _ _).trans (Gr.alloc _ _)).trans hb4 }; have HS4 := Lib.hid (show w.heap.size + 1 ≤ w4.heap.size by { have h1 := hg4.size; have h2 := HS3.out; omega }); have B0 := Lib.hid (B0.out.below' hg4); have BEL := Lib.hid (BEL.out.trans (Below.mono hg4 BEL.out.size)); have HD4 := Lib.hid hd4; clear hd4 hn4 hm4 hg4 hb4)) | (refine wpList_store_row (P := Tryz.prog) rfl 45 (.tmp 0) (.tmp 5) rfl w.heap.size #[.int .u8 48, .slice a4 n4 c4, .slice b4 m4 d4] rfl rfl 45 _ B0.out info25 rfl (all_item _ _ _ _ _ _ _) ?_))
  have D3 := B0.out.setRow [.int .u8 48, .slice a4 n4 c4, .slice b4 m4 d4]
  refine bodyPost_ret (results_one Tryz.results63 _ _ w.heap.size 45 _ (0, 0) _ rfl D3 Tryz.underlying45 rfl info25) rfl ?_
  exact fin_item HN4.out HM4.out HS4.out HD4.out BEL.out _
set_option maxRecDepth 100000 in
set_option maxHeartbeats 4000000 in
theorem ofCommonName_d (w : World) : Calls Tryz.prog 101 #[] w (ItR NoD 6 (oidB cnL) .nil w) := by
  have B0 := Lib.hid (Blk.new w 45 [.int .u8 0, .slice none 0 0, .slice none 0 0])
  have BEL := Lib.hid ((Below.refl _ w).alloc (Nat.le_refl _) (.cells #[.int .u8 0, .slice none 0 0, .slice none 0 0] 45))
  have HSW1 := Lib.hid (show w.heap.size + 1 ≤ (w.alloc (.cells #[.int .u8 0, .slice none 0 0, .slice none 0 0] 45)).heap.size by simp)
  go_enter Tryz.func101, Tryz.ntmps101
  generalize hW1 : w.alloc (.cells #[.int .u8 0, .slice none 0 0, .slice none 0 0] 45) = W1 at *
  go_wp2_with (first | (go_at_call 97; ((with_reducible refine (itB (base := w.heap.size + 1) (object_d _ _ _ _ cnL cn_ok (wlit W1 [2, 5, 4, 3] #[.int .u64 2, .int .u64 5, .int .u64 4, .int .u64 3] 4 rfl rfl (by decide) (by decide))) (by have := HSW1.out; simp only [World.size_alloc]; omega) (fun _ h => h.elim)).mono ?_); rintro e w3 ⟨a3, n3, c3, b3, m3, d3, hn3, hm3, rfl, hd3, hb3⟩; have HN3 := Lib.hid hn3; have HM3 := Lib.hid hm3; have hg3 : Gr W1 w3 := by { first | exact hb3 | exact (Gr.alloc _ _).trans hb3 | exact ((Gr.alloc _ _).trans (Gr.alloc _ _)).trans hb3 }; have HS3 := Lib.hid (show w.heap.size + 1 ≤ w3.heap.size by { have h1 := hg3.size; have h2 := HSW1.out; omega }); have B0 := Lib.hid (B0.out.below' hg3); have BEL := Lib.hid (BEL.out.trans (Below.mono hg3 BEL.out.size)); have HD3 := Lib.hid hd3; clear hd3 hn3 hm3 hg3 hb3)) | (refine wpList_store_row (P := Tryz.prog) rfl 45 (.tmp 0) (.tmp 2) rfl w.heap.size #[.int .u8 6, .slice a3 n3 c3, .slice b3 m3 d3] rfl rfl 45 _ B0.out info25 rfl (all_item _ _ _ _ _ _ _) ?_))
  have D3 := B0.out.setRow [.int .u8 6, .slice a3 n3 c3, .slice b3 m3 d3]
  refine bodyPost_ret (results_one Tryz.results101 _ _ w.heap.size 45 _ (0, 0) _ rfl D3 Tryz.underlying45 rfl info25) rfl ?_
  exact fin_item HN3.out HM3.out HS3.out HD3.out BEL.out _
abbrev verK : Tr := .node 2 (be (nb 2) 2) .nil .nil
set_option maxRecDepth 100000 in
set_option maxHeartbeats 4000000 in
theorem ofVersion_d (w : World) : Calls Tryz.prog 64 #[] w (ItR NoD 160 [] verK w) := by
  have B0 := Lib.hid (Blk.new w 45 [.int .u8 0, .slice none 0 0, .slice none 0 0])
  have BEL := Lib.hid ((Below.refl _ w).alloc (Nat.le_refl _) (.cells #[.int .u8 0, .slice none 0 0, .slice none 0 0] 45))
  have HSW1 := Lib.hid (show w.heap.size + 1 ≤ (w.alloc (.cells #[.int .u8 0, .slice none 0 0, .slice none 0 0] 45)).heap.size by simp)
  have HU := Lib.hid (fun W => (show Calls Tryz.prog 78 #[.int .u64 2] W (ItR NoD 2 (be (nb 2) 2) .nil W) from OfUint_d W 2 (by decide)))
  go_enter Tryz.func64, Tryz.ntmps64
  generalize hW1 : w.alloc (.cells #[.int .u8 0, .slice none 0 0, .slice none 0 0] 45) = W1 at *
  go_wp2_with (first | (go_at_call 78; ((with_reducible refine (itB (HU.out W1) HSW1.out (fun _ h => h.elim)).mono ?_); rintro e w2 ⟨a2, n2, c2, b2, m2, d2, hn2, hm2, rfl, hd2, hb2⟩; have HN2 := Lib.hid hn2; have HM2 := Lib.hid hm2; have hg2 : Gr W1 w2 := by { first | exact hb2 | exact (Gr.alloc _ _).trans hb2 | exact ((Gr.alloc _ _).trans (Gr.alloc _ _)).trans hb2 }; have HS2 := Lib.hid (show w.heap.size + 1 ≤ w2.heap.size by { have h1 := hg2.size; have h2 := HSW1.out; omega }); have B0 := Lib.hid (B0.out.below' hg2); have BEL := Lib.hid (BEL.out.trans (Below.mono hg2 BEL.out.size)); have HD2 := Lib.hid hd2; clear hd2 hn2 hm2 hg2 hb2)) | (go_at_call 83; ((with_reducible refine (item_b 160 160 rfl (by decide) _ _ 1 1 verK rfl (by have := HS2.out; simp only [World.size_alloc]; omega) (lit_b (cons_b 2 rfl HN2.out HM2.out HD2.out nil_b) rfl (by decide) HS2.out)).mono ?_); rintro e w3 ⟨a3, n3, c3, b3, m3, d3, hn3, hm3, rfl, hd3, hb3⟩; have HN3 := Lib.hid hn3; have HM3 := Lib.hid hm3; have hg3 : Gr w2 w3 := by { first | exact hb3 | exact (Gr.alloc _ _).trans hb3 | exact ((Gr.alloc _ _).trans (Gr.alloc _ _)).trans hb3 }; have HS3 := Lib.hid (show w.heap.size + 1 ≤ w3.heap.size by { have h1 := hg3.size; have h2 := HS2.out; omega }); have B0 := Lib.hid (B0.out.below' hg3); have BEL := Lib.hid (BEL.out.trans (Below.mono hg3 BEL.out.size)); have HD3 := Lib.hid hd3; clear hd3 hn3 hm3 hg3 hb3)) | (refine wpList_store_row (P := Tryz.prog) rfl 45 (.tmp 0) (.tmp 3) rfl w.heap.size #[.int .u8 160, .slice a3 n3 c3, .slice b3 m3 d3] rfl rfl 45 _ B0.out info25 rfl (all_item _ _ _ _ _ _ _) ?_))
  have D3 := B0.out.setRow [.int .u8 160, .slice a3 n3 c3, .slice b3 m3 d3]
  refine bodyPost_ret (results_one Tryz.results64 _ _ w.heap.size 45 _ (0, 0) _ rfl D3 Tryz.underlying45 rfl info25) rfl ?_
  exact fin_item HN3.out HM3.out HS3.out HD3.out BEL.out _
abbrev t0L : List Nat := [50, 48, 48, 48, 48, 49, 48, 49, 48, 48, 48, 48, 48, 48, 90]
abbrev t9L : List Nat := [57, 57, 57, 57, 49, 50, 51, 49, 50, 51, 53, 57, 53, 57, 90]
abbrev timK : Tr := .node 24 t0L .nil (.node 24 t9L .nil .nil)
set_option maxRecDepth 100000 in
set_option maxHeartbeats 4000000 in
theorem ofTimes_d (w : World) : Calls Tryz.prog 65 #[] w (ItR NoD 48 [] timK w) := by
  have B0 := Lib.hid (Blk.new w 45 [.int .u8 0, .slice none 0 0, .slice none 0 0])
  have BEL := Lib.hid ((Below.refl _ w).alloc (Nat.le_refl _) (.cells #[.int .u8 0, .slice none 0 0, .slice none 0 0] 45))
  have HSW1 := Lib.hid (show w.heap.size + 1 ≤ (w.alloc (.cells #[.int .u8 0, .slice none 0 0, .slice none 0 0] 45)).heap.size by simp)
  go_enter Tryz.func65, Tryz.ntmps65
  generalize hW1 : w.alloc (.cells #[.int .u8 0, .slice none 0 0, .slice none 0 0] 45) = W1 at *
  go_wp2_with (first | (go_at_call 99; ((with_reducible refine (itB (text_d 24 24 rfl (by decide) { data := #[50, 48, 48, 48, 48, 49, 48, 49, 48, 48, 48, 48, 48, 48, 90] } t0L (by decide +kernel) (by decide +kernel) W1) HSW1.out (fun _ h => h.elim)).mono ?_); rintro e w2 ⟨a2, n2, c2, b2, m2, d2, hn2, hm2, rfl, hd2, hb2⟩; have HN2 := Lib.hid hn2; have HM2 := Lib.hid hm2; have hg2 : Gr W1 w2 := by { first | exact hb2 | exact (Gr.alloc _ _).trans hb2 | exact ((Gr.alloc _ _).trans (Gr.alloc _ _)).trans hb2 }; have HS2 := Lib.hid (show w.heap.size + 1 ≤ w2.heap.size by { have h1 := hg2.size; have h2 := HSW1.out; omega }); have B0 := Lib.hid (B0.out.below' hg2); have BEL := Lib.hid (BEL.out.trans (Below.mono hg2 BEL.out.size)); have HD2 := Lib.hid hd2; clear hd2 hn2 hm2 hg2 hb2)) | (go_at_call 99; ((with_reducible refine (itB (text_d 24 24 rfl (by decide) { data := #[57, 57, 57, 57, 49, 50, 51, 49, 50, 51, 53, 57, 53, 57, 90] } t9L (by decide +kernel) (by decide +kernel) w2) HS2.out (fun _ h => h.elim)).mono ?_); rintro e w3 ⟨a3, n3, c3, b3, m3, d3, hn3, hm3, rfl, hd3, hb3⟩; have HN3 := Lib.hid hn3; have HM3 := Lib.hid hm3; have hg3 : Gr w2 w3 := by { first | exact hb3 | exact (Gr.alloc _ _).trans hb3 | exact ((Gr.alloc _ _).trans (Gr.alloc _ _)).trans hb3 }; have HS3 := Lib.hid (show w.heap.size + 1 ≤ w3.heap.size by { have h1 := hg3.size; have h2 := HS2.out; omega }); have B0 := Lib.hid (B0.out.below' hg3); have BEL := Lib.hid (BEL.out.trans (Below.mono hg3 BEL.out.size)); have HD3 := Lib.hid hd3; have HD2 := Lib.hid (HD2.out.below hg3); clear hd3 hn3 hm3 hg3 hb3)) | (go_at_call 80; ((with_reducible refine (seq_b _ _ 2 2 timK rfl (by have := HS3.out; simp only [World.size_alloc]; omega) (lit_b (cons_b 24 rfl HN2.out HM2.out HD2.out (cons_b 24 rfl HN3.out HM3.out HD3.out nil_b)) rfl (by decide) HS3.out)).mono ?_); rintro e w4 ⟨a4, n4, c4, b4, m4, d4, hn4, hm4, rfl, hd4, hb4⟩; have HN4 := Lib.hid hn4; have HM4 := Lib.hid hm4; have hg4 : Gr w3 w4 := by { first | exact hb4 | exact (Gr.alloc _ _).trans hb4 | exact ((Gr.alloc _ _).trans (Gr.alloc _ _)).trans hb4 }; have HS4 := Lib.hid (show w.heap.size + 1 ≤ w4.heap.size by { have h1 := hg4.size; have h2 := HS3.out; omega }); have B0 := Lib.hid (B0.out.below' hg4); have BEL := Lib.hid (BEL.out.trans (Below.mono hg4 BEL.out.size)); have HD4 := Lib.hid hd4; clear hd4 hn4 hm4 hg4 hb4)) | (refine wpList_store_row (P := Tryz.prog) rfl 45 (.tmp 0) (.tmp 4) rfl w.heap.size #[.int .u8 48, .slice a4 n4 c4, .slice b4 m4 d4] rfl rfl 45 _ B0.out info25 rfl (all_item _ _ _ _ _ _ _) ?_))
  have D3 := B0.out.setRow [.int .u8 48, .slice a4 n4 c4, .slice b4 m4 d4]
  refine bodyPost_ret (results_one Tryz.results65 _ _ w.heap.size 45 _ (0, 0) _ rfl D3 Tryz.underlying45 rfl info25) rfl ?_
  exact fin_item HN4.out HM4.out HS4.out HD4.out BEL.out _
abbrev cnT (b : List Nat) : Tr := .node 6 (oidB cnL) .nil (.node 12 b .nil .nil)
abbrev setT (b : List Nat) : Tr := .node 48 [] (cnT b) .nil
abbrev namK (b : List Nat) : Tr := .node 49 [] (setT b) .nil
set_option maxRecDepth 100000 in
set_option maxHeartbeats 4000000 in
theorem ofName_d (w : World) (s : ByteArray) (b : List Nat) (hb : strL s = b) (hs : s.size ≤ 140737488355328) : Calls Tryz.prog 79 #[.string s] w (ItR NoD 48 [] (namK b) w) := by
  have B0 := Lib.hid (Blk.new w 45 [.int .u8 0, .slice none 0 0, .slice none 0 0])
  have BEL := Lib.hid ((Below.refl _ w).alloc (Nat.le_refl _) (.cells #[.int .u8 0, .slice none 0 0, .slice none 0 0] 45))
  have HSW1 := Lib.hid (show w.heap.size + 1 ≤ (w.alloc (.cells #[.int .u8 0, .slice none 0 0, .slice none 0 0] 45)).heap.size by simp)
  have HBB := Lib.hid hb
  have HSS := Lib.hid hs
  clear hb hs
  go_enter Tryz.func79, Tryz.ntmps79
  generalize hW1 : w.alloc (.cells #[.int .u8 0, .slice none 0 0, .slice none 0 0] 45) = W1 at *
  go_wp2_with (first | (go_at_call 101; ((with_reducible refine (itB (ofCommonName_d W1) HSW1.out (fun _ h => h.elim)).mono ?_); rintro e w2 ⟨a2, n2, c2, b2, m2, d2, hn2, hm2, rfl, hd2, hb2⟩; have HN2 := Lib.hid hn2; have HM2 := Lib.hid hm2; have hg2 : Gr W1 w2 := by { first | exact hb2 | exact (Gr.alloc _ _).trans hb2 | exact ((Gr.alloc _ _).trans (Gr.alloc _ _)).trans hb2 }; have HS2 := Lib.hid (show w.heap.size + 1 ≤ w2.heap.size by { have h1 := hg2.size; have h2 := HSW1.out; omega }); have B0 := Lib.hid (B0.out.below' hg2); have BEL := Lib.hid (BEL.out.trans (Below.mono hg2 BEL.out.size)); have HD2 := Lib.hid hd2; clear hd2 hn2 hm2 hg2 hb2)) | (go_at_call 99; ((with_reducible refine (itB (text_d 12 12 rfl (by decide) s b HBB.out HSS.out w2) HS2.out (fun _ h => h.elim)).mono ?_); rintro e w3 ⟨a3, n3, c3, b3, m3, d3, hn3, hm3, rfl, hd3, hb3⟩; have HN3 := Lib.hid hn3; have HM3 := Lib.hid hm3; have hg3 : Gr w2 w3 := by { first | exact hb3 | exact (Gr.alloc _ _).trans hb3 | exact ((Gr.alloc _ _).trans (Gr.alloc _ _)).trans hb3 }; have HS3 := Lib.hid (show w.heap.size + 1 ≤ w3.heap.size by { have h1 := hg3.size; have h2 := HS2.out; omega }); have B0 := Lib.hid (B0.out.below' hg3); have BEL := Lib.hid (BEL.out.trans (Below.mono hg3 BEL.out.size)); have HD3 := Lib.hid hd3; have HD2 := Lib.hid (HD2.out.below hg3); clear hd3 hn3 hm3 hg3 hb3)) | (go_at_call 80; ((with_reducible refine (seq_b _ _ 2 2 (cnT b) rfl (by have := HS3.out; simp only [World.size_alloc]; omega) (lit_b (cons_b 6 rfl HN2.out HM2.out HD2.out (cons_b 12 rfl HN3.out HM3.out HD3.out nil_b)) rfl (by decide) HS3.out)).mono ?_); rintro e w4 ⟨a4, n4, c4, b4, m4, d4, hn4, hm4, rfl, hd4, hb4⟩; have HN4 := Lib.hid hn4; have HM4 := Lib.hid hm4; have hg4 : Gr w3 w4 := by { first | exact hb4 | exact (Gr.alloc _ _).trans hb4 | exact ((Gr.alloc _ _).trans (Gr.alloc _ _)).trans hb4 }; have HS4 := Lib.hid (show w.heap.size + 1 ≤ w4.heap.size by { have h1 := hg4.size; have h2 := HS3.out; omega }); have B0 := Lib.hid (B0.out.below' hg4); have BEL := Lib.hid (BEL.out.trans (Below.mono hg4 BEL.out.size)); have HD4 := Lib.hid hd4; clear hd4 hn4 hm4 hg4 hb4)) | (go_at_call 83; ((with_reducible refine (item_b 49 49 rfl (by decide) _ _ 1 1 (setT b) rfl (by have := HS4.out; simp only [World.size_alloc]; omega) (lit_b (cons_b 48 rfl HN4.out HM4.out HD4.out nil_b) rfl (by decide) HS4.out)).mono ?_); rintro e w5 ⟨a5, n5, c5, b5, m5, d5, hn5, hm5, rfl, hd5, hb5⟩; have HN5 := Lib.hid hn5; have HM5 := Lib.hid hm5; have hg5 : Gr w4 w5 := by { first | exact hb5 | exact (Gr.alloc _ _).trans hb5 | exact ((Gr.alloc _ _).trans (Gr.alloc _ _)).trans hb5 }; have HS5 := Lib.hid (show w.heap.size + 1 ≤ w5.heap.size by { have h1 := hg5.size; have h2 := HS4.out; omega }); have B0 := Lib.hid (B0.out.below' hg5); have BEL := Lib.hid (BEL.out.trans (Below.mono hg5 BEL.out.size)); have HD5 := Lib.hid hd5; clear hd5 hn5 hm5 hg5 hb5)) | (go_at_call 80; ((with_reducible refine (seq_b _ _ 1 1 (namK b) rfl (by have := HS5.out; simp only [World.size_alloc]; omega) (lit_b (cons_b 49 rfl HN5.out HM5.out HD5.out nil_b) rfl (by decide) HS5.out)).mono ?_); rintro e w6 ⟨a6, n6, c6, b6, m6, d6, hn6, hm6, rfl, hd6, hb6⟩; have HN6 := Lib.hid hn6; have HM6 := Lib.hid hm6; have hg6 : Gr w5 w6 := by { first | exact hb6 | exact (Gr.alloc _ _).trans hb6 | exact ((Gr.alloc _ _).trans (Gr.alloc _ _)).trans hb6 }; have HS6 := Lib.hid (show w.heap.size + 1 ≤ w6.heap.size by { have h1 := hg6.size; have h2 := HS5.out; omega }); have B0 := Lib.hid (B0.out.below' hg6); have BEL := Lib.hid (BEL.out.trans (Below.mono hg6 BEL.out.size)); have HD6 := Lib.hid hd6; clear hd6 hn6 hm6 hg6 hb6)) | (refine wpList_store_row (P := Tryz.prog) rfl 45 (.tmp 2) (.tmp 11) rfl w.heap.size #[.int .u8 48, .slice a6 n6 c6, .slice b6 m6 d6] rfl rfl 45 _ B0.out info25 rfl (all_item _ _ _ _ _ _ _) ?_))
  have D3 := B0.out.setRow [.int .u8 48, .slice a6 n6 c6, .slice b6 m6 d6]
  refine bodyPost_ret (results_one Tryz.results79 _ _ w.heap.size 45 _ (0, 0) _ rfl D3 Tryz.underlying45 rfl info25) rfl ?_
  exact fin_item HN6.out HM6.out HS6.out HD6.out BEL.out _
end Go.Proofs.YtbabpmncdphnjaaGreat
namespace Go.Proofs.YtbabpmncdphnjaaGreat
open Go.RowKit
set_option linter.unusedVariables false
set_option maxRecDepth 100000
set_option linter.unusedSimpArgs false
abbrev certV (sn : Nat) (is su : ByteArray) (ka : Option Addr) (kn kc : Nat) (xa : Option Addr) (xn xc : Nat) (sa : Option Addr) (sl sc : Nat) : Value := .agg #[.int .u64 (sn : Nat), .string is, .string su, .slice ka kn kc, .slice xa xn xc, .slice sa sl sc]
theorem info55 : (Tryz.prog.info? 26).map (·.size) = some 6 := by kernel_rfl
theorem all_cert (n : Int) (is su : ByteArray) (ka : Option Addr) (kn kc : Nat) (xa : Option Addr) (xn xc : Nat) (sa : Option Addr) (sl sc : Nat) : (#[Value.int .u64 n, .string is, .string su, .slice ka kn kc, .slice xa xn xc, .slice sa sl sc] : Array Value).all (·.oneCell') = true := by
  simp [Value.oneCell']
abbrev keyT (kb : List Nat) : Tr := .node 48 [] algK (.node 3 (0 :: kb) .nil .nil)
abbrev tbsK (sn : Nat) (ib sb kb : List Nat) (r : Tr) : Tr :=
  .node 160 [] verK (.node 2 (be (nb sn) sn) .nil (.node 48 [] algK (.node 48 [] (namK ib) (.node 48 [] timK (.node 48 [] (namK sb) (.node 48 [] (keyT kb) r))))))
abbrev crtK (sn : Nat) (ib sb kb sg : List Nat) (r : Tr) : Tr := .node 48 [] (tbsK sn ib sb kb r) (.node 48 [] algK (.node 3 (0 :: sg) .nil .nil))
theorem fin_item2 {t : Nat} {b : List Nat} {k : Tr} {w w2 : World} {g : Nat} {a a' : Option Addr} {n m c c' : Nat} (hn : b.length = n) (hm : k.len = m) (hg : w.heap.size ≤ g) (hd : Dep (FB (g + 1)) w2 (fun x => ItIn x t a c a' c' b k)) (hb : Below w.heap.size w w2) (cs : Array Value) :
    ItR NoD t b k w (.returned (itV t a n c a' m c')) (w2.setRow g cs) :=
  ⟨a, n, c, a', m, c', hn, hm, rfl, (hd.row g cs (fun h => by have : g + 1 ≤ g := h; omega)).mono (fun j (hj : g + 1 ≤ j) _ => .inr (by omega)), below_setRow' hb hg cs⟩
theorem blkc {w : World} {g i : Nat} {t : TypeId} {cs : List Value} {v : Value} (h : Blk w g t cs) (hv : cs[i]? = some v) : w.cell? ⟨g, i, none⟩ = some v := (h.cell i).trans hv
set_option maxRecDepth 100000 in
set_option maxHeartbeats 8000000 in
theorem ofSigned_0 (w : World) (sn : Nat) (hsn : sn < 18446744073709551616) (is su : ByteArray) (ib sb : List Nat) (hib : strL is = ib) (hsb : strL su = sb) (his : is.size ≤ 140737488355328) (hsu : su.size ≤ 140737488355328)
    (ka : Option Addr) (kn kc : Nat) (kb : List Nat) (hk : BIn w ka kn kc kb) (hkn : kn ≤ 140737488351232) (xa : Option Addr) (xc : Nat) (sa : Option Addr) (sl sc : Nat) :
    Calls Tryz.prog 40 #[certV sn is su ka kn kc xa 0 xc sa sl sc] w (ItR NoD 48 [] (tbsK sn ib sb kb .nil) w) := by
  have h00 := ((Below.refl _ w).alloc (Nat.le_refl _) (.cells #[.int .u64 (sn : Nat), .string is, .string su, .slice ka kn kc, .slice xa 0 xc, .slice sa sl sc] 26)).alloc (by simp) (.cells #[.int .u8 0, .slice none 0 0, .slice none 0 0] 45)
  have HBX := Lib.hid ((Blk.new w 26 [.int .u64 (sn : Nat), .string is, .string su, .slice ka kn kc, .slice xa 0 xc, .slice sa sl sc]).alloc (.cells #[.int .u8 0, .slice none 0 0, .slice none 0 0] 45))
  have HRS := Lib.hid (Blk.new2 w (.cells #[.int .u64 (sn : Nat), .string is, .string su, .slice ka kn kc, .slice xa 0 xc, .slice sa sl sc] 26) 45 [.int .u8 0, .slice none 0 0, .slice none 0 0])
  have HS0 := Lib.hid (show w.heap.size + 2 ≤ ((w.alloc (.cells #[.int .u64 (sn : Nat), .string is, .string su, .slice ka kn kc, .slice xa 0 xc, .slice sa sl sc] 26)).alloc (.cells #[.int .u8 0, .slice none 0 0, .slice none 0 0] 45)).heap.size by simp)
  have H00 := Lib.hid h00
  have HK := Lib.hid (hk.below h00)
  have HKN := Lib.hid hkn
  have HI := Lib.hid hib
  have HSB := Lib.hid hsb
  have HIS := Lib.hid his
  have HSU := Lib.hid hsu
  have HSN := Lib.hid hsn
  clear h00 hk hkn hib hsb his hsu hsn
  go_enter Tryz.func40, Tryz.ntmps40
  go_wp2_with fail
  generalize (w.alloc (.cells #[.int .u64 (sn : Nat), .string is, .string su, .slice ka kn kc, .slice xa 0 xc, .slice sa sl sc] 26)).alloc (.cells #[.int .u8 0, .slice none 0 0, .slice none 0 0] 45) = W0 at *
  have k0 := blkc HBX.out (i := 0) rfl
  have k1 := blkc HBX.out (i := 1) rfl
  have k2 := blkc HBX.out (i := 2) rfl
  have k3 := blkc HBX.out (i := 3) rfl
  refine wp_region_L (fun w_ => Below W0.heap.size W0 w_) [] [1, 5, 9, 13, 19] (by kernel_rfl) (Below.refl _ _).drew ?_
  refine wpAnyL_pure (fun _ _ hS_ hb_ => gr_bel hS_ hb_) (i := 1) rfl (by kernel_rfl) (fun _ _ _ h => h) (pureG (by rfl) (by intro w_; go_simp; first | done | with_reducible rfl)) ?_
  try simp only [Act.put, List.getElem_toArray, List.getElem_cons_succ, List.getElem_cons_zero, List.setIfInBounds_toArray, List.set_cons_zero, List.set_cons_succ]
  refine wpAnyL_pure (fun _ _ hS_ hb_ => gr_bel hS_ hb_) (i := 5) rfl (by kernel_rfl) (fun _ _ _ h => h) (pureG (by rfl) (by intro w_; go_simp; first | done | with_reducible rfl)) ?_
  try simp only [Act.put, List.getElem_toArray, List.getElem_cons_succ, List.getElem_cons_zero, List.setIfInBounds_toArray, List.set_cons_zero, List.set_cons_succ]
  refine wpAnyL_pure (fun _ _ hS_ hb_ => gr_bel hS_ hb_) (i := 9) rfl (by kernel_rfl) (fun _ _ _ h => h) (pureG (by rfl) (by intro w_; go_simp; first | done | with_reducible rfl)) ?_
  try simp only [Act.put, List.getElem_toArray, List.getElem_cons_succ, List.getElem_cons_zero, List.setIfInBounds_toArray, List.set_cons_zero, List.set_cons_succ]
  refine wpAnyL_pure (fun _ _ hS_ hb_ => gr_bel hS_ hb_) (i := 13) rfl (by kernel_rfl) (fun _ _ _ h => h) (pureG (by rfl) (by intro w_; go_simp; first | done | with_reducible rfl)) ?_
  try simp only [Act.put, List.getElem_toArray, List.getElem_cons_succ, List.getElem_cons_zero, List.setIfInBounds_toArray, List.set_cons_zero, List.set_cons_succ]
  refine wpAnyL_take (fun _ _ hS_ hb_ => gr_bel hS_ hb_) (i := 2) rfl (by kernel_rfl) (fun _ _ _ h => h) (worldG (by rfl) (by intro w_ hS_; have q := (hS_.cell (World.block_lt_of_cell? W0 _ k0)).trans k0; go_simp; first | done | with_reducible rfl)) ?_
  try simp only [Act.put, List.getElem_toArray, List.getElem_cons_succ, List.getElem_cons_zero, List.setIfInBounds_toArray, List.set_cons_zero, List.set_cons_succ]
  refine wpAnyL_take (fun _ _ hS_ hb_ => gr_bel hS_ hb_) (i := 6) rfl (by kernel_rfl) (fun _ _ _ h => h) (worldG (by rfl) (by intro w_ hS_; have q := (hS_.cell (World.block_lt_of_cell? W0 _ k1)).trans k1; go_simp; first | done | with_reducible rfl)) ?_
  try simp only [Act.put, List.getElem_toArray, List.getElem_cons_succ, List.getElem_cons_zero, List.setIfInBounds_toArray, List.set_cons_zero, List.set_cons_succ]
  refine wpAnyL_take (fun _ _ hS_ hb_ => gr_bel hS_ hb_) (i := 10) rfl (by kernel_rfl) (fun _ _ _ h => h) (worldG (by rfl) (by intro w_ hS_; have q := (hS_.cell (World.block_lt_of_cell? W0 _ k2)).trans k2; go_simp; first | done | with_reducible rfl)) ?_
  try simp only [Act.put, List.getElem_toArray, List.getElem_cons_succ, List.getElem_cons_zero, List.setIfInBounds_toArray, List.set_cons_zero, List.set_cons_succ]
  refine wpAnyL_take (fun _ _ hS_ hb_ => gr_bel hS_ hb_) (i := 14) rfl (by kernel_rfl) (fun _ _ _ h => h) (worldG (by rfl) (by intro w_ hS_; have q := (hS_.cell (World.block_lt_of_cell? W0 _ k3)).trans k3; go_simp; first | done | with_reducible rfl)) ?_
  try simp only [Act.put, List.getElem_toArray, List.getElem_cons_succ, List.getElem_cons_zero, List.setIfInBounds_toArray, List.set_cons_zero, List.set_cons_succ]
  refine wpAnyL_one (i := 0) (by kernel_rfl) (by decide) fun V1 hv1 hS1 => ?_
  have HSV1 : w.heap.size + 2 ≤ V1.heap.size := by { have h1 := hS1.size; have h2 := HS0.out; omega }
  replace HK := Lib.hid (HK.out.below hS1)
  refine wpOp_callE (i := 0) rfl (by rfl) rfl Tryz.func64 (by kernel_rfl) (by kernel_rfl) #[] (by simp [Act.eval]) ((itB (base := w.heap.size + 2) (ofVersion_d V1) HSV1 (fun _ h => h.elim)).mono ?_)
  rintro e w1 ⟨a1, n1, c1, b1, m1, d1, hn1, hm1, rfl, hd1, hb1⟩
  have HN1 := Lib.hid hn1; have HM1 := Lib.hid hm1; clear hn1 hm1
  replace HK := Lib.hid (HK.out.below hb1)
  have HD1 := Lib.hid hd1; clear hd1
  refine ⟨_, rfl, Gr.trans hS1 hb1, ?_⟩
  try simp only [Act.put, List.getElem_toArray, List.getElem_cons_succ, List.getElem_cons_zero, List.setIfInBounds_toArray, List.set_cons_zero, List.set_cons_succ]
  refine wpAnyL_one (i := 3) (by kernel_rfl) (by decide) fun V2 hv2 hS2 => ?_
  have HSV2 : w.heap.size + 2 ≤ V2.heap.size := by { have h1 := hS2.size; have h2 := HS0.out; omega }
  replace HK := Lib.hid (HK.out.below hv2)
  replace HD1 := Lib.hid (HD1.out.below hv2)
  refine wpOp_callE (i := 3) rfl (by rfl) rfl Tryz.func78 (by kernel_rfl) (by kernel_rfl) #[.int .u64 (sn : Nat)] (by simp [Act.eval]) ((itB (base := w.heap.size + 2) (OfUint_d V2 sn HSN.out) HSV2 (fun _ h => h.elim)).mono ?_)
  rintro e w2 ⟨a2, n2, c2, b2, m2, d2, hn2, hm2, rfl, hd2, hb2⟩
  have HN2 := Lib.hid hn2; have HM2 := Lib.hid hm2; clear hn2 hm2
  replace HK := Lib.hid (HK.out.below hb2)
  replace HD1 := Lib.hid (HD1.out.below hb2)
  have HD2 := Lib.hid hd2; clear hd2
  refine ⟨_, rfl, Gr.trans hS2 hb2, ?_⟩
  try simp only [Act.put, List.getElem_toArray, List.getElem_cons_succ, List.getElem_cons_zero, List.setIfInBounds_toArray, List.set_cons_zero, List.set_cons_succ]
  refine wpAnyL_one (i := 4) (by kernel_rfl) (by decide) fun V3 hv3 hS3 => ?_
  have HSV3 : w.heap.size + 2 ≤ V3.heap.size := by { have h1 := hS3.size; have h2 := HS0.out; omega }
  replace HK := Lib.hid (HK.out.below hv3)
  replace HD1 := Lib.hid (HD1.out.below hv3)
  replace HD2 := Lib.hid (HD2.out.below hv3)
  refine wpOp_callE (i := 4) rfl (by rfl) rfl Tryz.func63 (by kernel_rfl) (by kernel_rfl) #[] (by simp [Act.eval]) ((itB (base := w.heap.size + 2) (ofAlgorithm_d V3) HSV3 (fun _ h => h.elim)).mono ?_)
  rintro e w3 ⟨a3, n3, c3, b3, m3, d3, hn3, hm3, rfl, hd3, hb3⟩
  have HN3 := Lib.hid hn3; have HM3 := Lib.hid hm3; clear hn3 hm3
  replace HK := Lib.hid (HK.out.below hb3)
  replace HD1 := Lib.hid (HD1.out.below hb3)
  replace HD2 := Lib.hid (HD2.out.below hb3)
  have HD3 := Lib.hid hd3; clear hd3
  refine ⟨_, rfl, Gr.trans hS3 hb3, ?_⟩
  try simp only [Act.put, List.getElem_toArray, List.getElem_cons_succ, List.getElem_cons_zero, List.setIfInBounds_toArray, List.set_cons_zero, List.set_cons_succ]
  refine wpAnyL_one (i := 7) (by kernel_rfl) (by decide) fun V4 hv4 hS4 => ?_
  have HSV4 : w.heap.size + 2 ≤ V4.heap.size := by { have h1 := hS4.size; have h2 := HS0.out; omega }
  replace HK := Lib.hid (HK.out.below hv4)
  replace HD1 := Lib.hid (HD1.out.below hv4)
  replace HD2 := Lib.hid (HD2.out.below hv4)
  replace HD3 := Lib.hid (HD3.out.below hv4)
  refine wpOp_callE (i := 7) rfl (by rfl) rfl Tryz.func79 (by kernel_rfl) (by kernel_rfl) #[.string is] (by simp [Act.eval]) ((itB (base := w.heap.size + 2) (ofName_d V4 is ib HI.out HIS.out) HSV4 (fun _ h => h.elim)).mono ?_)
  rintro e w4 ⟨a4, n4, c4, b4, m4, d4, hn4, hm4, rfl, hd4, hb4⟩
  have HN4 := Lib.hid hn4; have HM4 := Lib.hid hm4; clear hn4 hm4
  replace HK := Lib.hid (HK.out.below hb4)
  replace HD1 := Lib.hid (HD1.out.below hb4)
  replace HD2 := Lib.hid (HD2.out.below hb4)
  replace HD3 := Lib.hid (HD3.out.below hb4)
  have HD4 := Lib.hid hd4; clear hd4
  refine ⟨_, rfl, Gr.trans hS4 hb4, ?_⟩
  try simp only [Act.put, List.getElem_toArray, List.getElem_cons_succ, List.getElem_cons_zero, List.setIfInBounds_toArray, List.set_cons_zero, List.set_cons_succ]
  refine wpAnyL_one (i := 8) (by kernel_rfl) (by decide) fun V5 hv5 hS5 => ?_
  have HSV5 : w.heap.size + 2 ≤ V5.heap.size := by { have h1 := hS5.size; have h2 := HS0.out; omega }
  replace HK := Lib.hid (HK.out.below hv5)
  replace HD1 := Lib.hid (HD1.out.below hv5)
  replace HD2 := Lib.hid (HD2.out.below hv5)
  replace HD3 := Lib.hid (HD3.out.below hv5)
  replace HD4 := Lib.hid (HD4.out.below hv5)
  refine wpOp_callE (i := 8) rfl (by rfl) rfl Tryz.func65 (by kernel_rfl) (by kernel_rfl) #[] (by simp [Act.eval]) ((itB (base := w.heap.size + 2) (ofTimes_d V5) HSV5 (fun _ h => h.elim)).mono ?_)
  rintro e w5 ⟨a5, n5, c5, b5, m5, d5, hn5, hm5, rfl, hd5, hb5⟩
  have HN5 := Lib.hid hn5; have HM5 := Lib.hid hm5; clear hn5 hm5
  replace HK := Lib.hid (HK.out.below hb5)
  replace HD1 := Lib.hid (HD1.out.below hb5)
  replace HD2 := Lib.hid (HD2.out.below hb5)
  replace HD3 := Lib.hid (HD3.out.below hb5)
  replace HD4 := Lib.hid (HD4.out.below hb5)
  have HD5 := Lib.hid hd5; clear hd5
  refine ⟨_, rfl, Gr.trans hS5 hb5, ?_⟩
  try simp only [Act.put, List.getElem_toArray, List.getElem_cons_succ, List.getElem_cons_zero, List.setIfInBounds_toArray, List.set_cons_zero, List.set_cons_succ]
  refine wpAnyL_one (i := 11) (by kernel_rfl) (by decide) fun V6 hv6 hS6 => ?_
  have HSV6 : w.heap.size + 2 ≤ V6.heap.size := by { have h1 := hS6.size; have h2 := HS0.out; omega }
  replace HK := Lib.hid (HK.out.below hv6)
  replace HD1 := Lib.hid (HD1.out.below hv6)
  replace HD2 := Lib.hid (HD2.out.below hv6)
  replace HD3 := Lib.hid (HD3.out.below hv6)
  replace HD4 := Lib.hid (HD4.out.below hv6)
  replace HD5 := Lib.hid (HD5.out.below hv6)
  refine wpOp_callE (i := 11) rfl (by rfl) rfl Tryz.func79 (by kernel_rfl) (by kernel_rfl) #[.string su] (by simp [Act.eval]) ((itB (base := w.heap.size + 2) (ofName_d V6 su sb HSB.out HSU.out) HSV6 (fun _ h => h.elim)).mono ?_)
  rintro e w6 ⟨a6, n6, c6, b6, m6, d6, hn6, hm6, rfl, hd6, hb6⟩
  have HN6 := Lib.hid hn6; have HM6 := Lib.hid hm6; clear hn6 hm6
  replace HK := Lib.hid (HK.out.below hb6)
  replace HD1 := Lib.hid (HD1.out.below hb6)
  replace HD2 := Lib.hid (HD2.out.below hb6)
  replace HD3 := Lib.hid (HD3.out.below hb6)
  replace HD4 := Lib.hid (HD4.out.below hb6)
  replace HD5 := Lib.hid (HD5.out.below hb6)
  have HD6 := Lib.hid hd6; clear hd6
  refine ⟨_, rfl, Gr.trans hS6 hb6, ?_⟩
  try simp only [Act.put, List.getElem_toArray, List.getElem_cons_succ, List.getElem_cons_zero, List.setIfInBounds_toArray, List.set_cons_zero, List.set_cons_succ]
  refine wpAnyL_one (i := 12) (by kernel_rfl) (by decide) fun V7 hv7 hS7 => ?_
  have HSV7 : w.heap.size + 2 ≤ V7.heap.size := by { have h1 := hS7.size; have h2 := HS0.out; omega }
  replace HK := Lib.hid (HK.out.below hv7)
  replace HD1 := Lib.hid (HD1.out.below hv7)
  replace HD2 := Lib.hid (HD2.out.below hv7)
  replace HD3 := Lib.hid (HD3.out.below hv7)
  replace HD4 := Lib.hid (HD4.out.below hv7)
  replace HD5 := Lib.hid (HD5.out.below hv7)
  replace HD6 := Lib.hid (HD6.out.below hv7)
  refine wpOp_callE (i := 12) rfl (by rfl) rfl Tryz.func63 (by kernel_rfl) (by kernel_rfl) #[] (by simp [Act.eval]) ((itB (base := w.heap.size + 2) (ofAlgorithm_d V7) HSV7 (fun _ h => h.elim)).mono ?_)
  rintro e w7 ⟨a7, n7, c7, b7, m7, d7, hn7, hm7, rfl, hd7, hb7⟩
  have HN7 := Lib.hid hn7; have HM7 := Lib.hid hm7; clear hn7 hm7
  replace HK := Lib.hid (HK.out.below hb7)
  replace HD1 := Lib.hid (HD1.out.below hb7)
  replace HD2 := Lib.hid (HD2.out.below hb7)
  replace HD3 := Lib.hid (HD3.out.below hb7)
  replace HD4 := Lib.hid (HD4.out.below hb7)
  replace HD5 := Lib.hid (HD5.out.below hb7)
  replace HD6 := Lib.hid (HD6.out.below hb7)
  have HD7 := Lib.hid hd7; clear hd7
  refine ⟨_, rfl, Gr.trans hS7 hb7, ?_⟩
  try simp only [Act.put, List.getElem_toArray, List.getElem_cons_succ, List.getElem_cons_zero, List.setIfInBounds_toArray, List.set_cons_zero, List.set_cons_succ]
  refine wpAnyL_one (i := 15) (by kernel_rfl) (by decide) fun V8 hv8 hS8 => ?_
  have HSV8 : w.heap.size + 2 ≤ V8.heap.size := by { have h1 := hS8.size; have h2 := HS0.out; omega }
  replace HK := Lib.hid (HK.out.below hv8)
  replace HD1 := Lib.hid (HD1.out.below hv8)
  replace HD2 := Lib.hid (HD2.out.below hv8)
  replace HD3 := Lib.hid (HD3.out.below hv8)
  replace HD4 := Lib.hid (HD4.out.below hv8)
  replace HD5 := Lib.hid (HD5.out.below hv8)
  replace HD6 := Lib.hid (HD6.out.below hv8)
  replace HD7 := Lib.hid (HD7.out.below hv8)
  refine wpOp_callE (i := 15) rfl (by rfl) rfl Tryz.func81 (by kernel_rfl) (by kernel_rfl) #[.slice ka kn kc] (by simp [Act.eval]) ((itB (base := w.heap.size + 2) (OfBits_d V8 kb ka kn kc HK.out HKN.out) HSV8 (fun _ h => h.elim)).mono ?_)
  rintro e w8 ⟨a8, n8, c8, b8, m8, d8, hn8, hm8, rfl, hd8, hb8⟩
  have HN8 := Lib.hid hn8; have HM8 := Lib.hid hm8; clear hn8 hm8
  replace HK := Lib.hid (HK.out.below hb8)
  replace HD1 := Lib.hid (HD1.out.below hb8)
  replace HD2 := Lib.hid (HD2.out.below hb8)
  replace HD3 := Lib.hid (HD3.out.below hb8)
  replace HD4 := Lib.hid (HD4.out.below hb8)
  replace HD5 := Lib.hid (HD5.out.below hb8)
  replace HD6 := Lib.hid (HD6.out.below hb8)
  replace HD7 := Lib.hid (HD7.out.below hb8)
  have HD8 := Lib.hid hd8; clear hd8
  refine ⟨_, rfl, Gr.trans hS8 hb8, ?_⟩
  try simp only [Act.put, List.getElem_toArray, List.getElem_cons_succ, List.getElem_cons_zero, List.setIfInBounds_toArray, List.set_cons_zero, List.set_cons_succ]
  refine wpAnyL_one (i := 16) (by kernel_rfl) (by decide) fun V9 hv9 hS9 => ?_
  have HSV9 : w.heap.size + 2 ≤ V9.heap.size := by { have h1 := hS9.size; have h2 := HS0.out; omega }
  replace HK := Lib.hid (HK.out.below hv9)
  replace HD1 := Lib.hid (HD1.out.below hv9)
  replace HD2 := Lib.hid (HD2.out.below hv9)
  replace HD3 := Lib.hid (HD3.out.below hv9)
  replace HD4 := Lib.hid (HD4.out.below hv9)
  replace HD5 := Lib.hid (HD5.out.below hv9)
  replace HD6 := Lib.hid (HD6.out.below hv9)
  replace HD7 := Lib.hid (HD7.out.below hv9)
  replace HD8 := Lib.hid (HD8.out.below hv9)
  refine wpOp_run (i := 16) (v := .slice (some ⟨V9.heap.size, 0, none⟩) 2 2) (W2 := V9.alloc (.cells #[.int .u8 48, .slice a7 n7 c7, .slice b7 m7 d7, .int .u8 3, .slice a8 n8 c8, .slice b8 m8 d8] 45)) rfl (by rfl) (by go_simp; first | done | rfl) ?_
  refine ⟨hS9.alloc hS9.size _, ?_⟩
  try simp only [Act.put, List.getElem_toArray, List.getElem_cons_succ, List.getElem_cons_zero, List.setIfInBounds_toArray, List.set_cons_zero, List.set_cons_succ]
  have HKT := Lib.hid (lit_b (T := keyT kb) (n := 2) (cons_b 48 rfl HN7.out HM7.out HD7.out (cons_b 3 rfl HN8.out HM8.out HD8.out nil_b)) rfl (by decide) HSV9)
  replace HK := Lib.hid (HK.out.below (Gr.alloc V9 (.cells #[.int .u8 48, .slice a7 n7 c7, .slice b7 m7 d7, .int .u8 3, .slice a8 n8 c8, .slice b8 m8 d8] 45)))
  replace HD1 := Lib.hid (HD1.out.below (Gr.alloc V9 (.cells #[.int .u8 48, .slice a7 n7 c7, .slice b7 m7 d7, .int .u8 3, .slice a8 n8 c8, .slice b8 m8 d8] 45)))
  replace HD2 := Lib.hid (HD2.out.below (Gr.alloc V9 (.cells #[.int .u8 48, .slice a7 n7 c7, .slice b7 m7 d7, .int .u8 3, .slice a8 n8 c8, .slice b8 m8 d8] 45)))
  replace HD3 := Lib.hid (HD3.out.below (Gr.alloc V9 (.cells #[.int .u8 48, .slice a7 n7 c7, .slice b7 m7 d7, .int .u8 3, .slice a8 n8 c8, .slice b8 m8 d8] 45)))
  replace HD4 := Lib.hid (HD4.out.below (Gr.alloc V9 (.cells #[.int .u8 48, .slice a7 n7 c7, .slice b7 m7 d7, .int .u8 3, .slice a8 n8 c8, .slice b8 m8 d8] 45)))
  replace HD5 := Lib.hid (HD5.out.below (Gr.alloc V9 (.cells #[.int .u8 48, .slice a7 n7 c7, .slice b7 m7 d7, .int .u8 3, .slice a8 n8 c8, .slice b8 m8 d8] 45)))
  replace HD6 := Lib.hid (HD6.out.below (Gr.alloc V9 (.cells #[.int .u8 48, .slice a7 n7 c7, .slice b7 m7 d7, .int .u8 3, .slice a8 n8 c8, .slice b8 m8 d8] 45)))
  replace HD7 := Lib.hid (HD7.out.below (Gr.alloc V9 (.cells #[.int .u8 48, .slice a7 n7 c7, .slice b7 m7 d7, .int .u8 3, .slice a8 n8 c8, .slice b8 m8 d8] 45)))
  replace HD8 := Lib.hid (HD8.out.below (Gr.alloc V9 (.cells #[.int .u8 48, .slice a7 n7 c7, .slice b7 m7 d7, .int .u8 3, .slice a8 n8 c8, .slice b8 m8 d8] 45)))
  refine wpAnyL_one (i := 17) (by kernel_rfl) (by decide) fun V10 hv10 hS10 => ?_
  have HSV10 : w.heap.size + 2 ≤ V10.heap.size := by { have h1 := hS10.size; have h2 := HS0.out; omega }
  replace HK := Lib.hid (HK.out.below hv10)
  replace HD1 := Lib.hid (HD1.out.below hv10)
  replace HD2 := Lib.hid (HD2.out.below hv10)
  replace HD3 := Lib.hid (HD3.out.below hv10)
  replace HD4 := Lib.hid (HD4.out.below hv10)
  replace HD5 := Lib.hid (HD5.out.below hv10)
  replace HD6 := Lib.hid (HD6.out.below hv10)
  replace HD7 := Lib.hid (HD7.out.below hv10)
  replace HD8 := Lib.hid (HD8.out.below hv10)
  replace HKT := Lib.hid (HKT.out.below hv10)
  refine wpOp_callE (i := 17) rfl (by rfl) rfl Tryz.func80 (by kernel_rfl) (by kernel_rfl) #[.slice (some ⟨V9.heap.size, 0, none⟩) 2 2] (by simp [Act.eval]) ((seq_b V10 _ 2 2 (keyT kb) rfl HSV10 HKT.out).mono ?_)
  rintro e w10 ⟨a10, n10, c10, b10, m10, d10, hn10, hm10, rfl, hd10, hb10⟩
  have HN10 := Lib.hid hn10; have HM10 := Lib.hid hm10; clear hn10 hm10
  replace HK := Lib.hid (HK.out.below hb10)
  replace HD1 := Lib.hid (HD1.out.below hb10)
  replace HD2 := Lib.hid (HD2.out.below hb10)
  replace HD3 := Lib.hid (HD3.out.below hb10)
  replace HD4 := Lib.hid (HD4.out.below hb10)
  replace HD5 := Lib.hid (HD5.out.below hb10)
  replace HD6 := Lib.hid (HD6.out.below hb10)
  replace HD7 := Lib.hid (HD7.out.below hb10)
  replace HD8 := Lib.hid (HD8.out.below hb10)
  replace HKT := Lib.hid (HKT.out.below hb10)
  have HD10 := Lib.hid hd10; clear hd10
  refine ⟨_, rfl, Gr.trans hS10 hb10, ?_⟩
  try simp only [Act.put, List.getElem_toArray, List.getElem_cons_succ, List.getElem_cons_zero, List.setIfInBounds_toArray, List.set_cons_zero, List.set_cons_succ]
  refine wpAnyL_one (i := 18) (by kernel_rfl) (by decide) fun V11 hv11 hS11 => ?_
  have HSV11 : w.heap.size + 2 ≤ V11.heap.size := by { have h1 := hS11.size; have h2 := HS0.out; omega }
  replace HK := Lib.hid (HK.out.below hv11)
  replace HD1 := Lib.hid (HD1.out.below hv11)
  replace HD2 := Lib.hid (HD2.out.below hv11)
  replace HD3 := Lib.hid (HD3.out.below hv11)
  replace HD4 := Lib.hid (HD4.out.below hv11)
  replace HD5 := Lib.hid (HD5.out.below hv11)
  replace HD6 := Lib.hid (HD6.out.below hv11)
  replace HD7 := Lib.hid (HD7.out.below hv11)
  replace HD8 := Lib.hid (HD8.out.below hv11)
  replace HKT := Lib.hid (HKT.out.below hv11)
  replace HD10 := Lib.hid (HD10.out.below hv11)
  refine wpOp_run (i := 18) (v := .slice (some ⟨V11.heap.size, 0, none⟩) 7 7) (W2 := V11.alloc (.cells #[.int .u8 160, .slice a1 n1 c1, .slice b1 m1 d1, .int .u8 2, .slice a2 n2 c2, .slice b2 m2 d2, .int .u8 48, .slice a3 n3 c3, .slice b3 m3 d3, .int .u8 48, .slice a4 n4 c4, .slice b4 m4 d4, .int .u8 48, .slice a5 n5 c5, .slice b5 m5 d5, .int .u8 48, .slice a6 n6 c6, .slice b6 m6 d6, .int .u8 48, .slice a10 n10 c10, .slice b10 m10 d10] 45)) rfl (by rfl) (by go_simp; first | done | rfl) ?_
  refine ⟨hS11.alloc hS11.size _, ?_⟩
  try simp only [Act.put, List.getElem_toArray, List.getElem_cons_succ, List.getElem_cons_zero, List.setIfInBounds_toArray, List.set_cons_zero, List.set_cons_succ]
  have HLT := Lib.hid (lit_b (T := tbsK sn ib sb kb .nil) (n := 7) (cons_b 160 rfl HN1.out HM1.out HD1.out (cons_b 2 rfl HN2.out HM2.out HD2.out (cons_b 48 rfl HN3.out HM3.out HD3.out (cons_b 48 rfl HN4.out HM4.out HD4.out (cons_b 48 rfl HN5.out HM5.out HD5.out (cons_b 48 rfl HN6.out HM6.out HD6.out (cons_b 48 rfl HN10.out HM10.out HD10.out nil_b))))))) rfl (by decide) HSV11)
  replace HK := Lib.hid (HK.out.below (Gr.alloc V11 (.cells #[.int .u8 160, .slice a1 n1 c1, .slice b1 m1 d1, .int .u8 2, .slice a2 n2 c2, .slice b2 m2 d2, .int .u8 48, .slice a3 n3 c3, .slice b3 m3 d3, .int .u8 48, .slice a4 n4 c4, .slice b4 m4 d4, .int .u8 48, .slice a5 n5 c5, .slice b5 m5 d5, .int .u8 48, .slice a6 n6 c6, .slice b6 m6 d6, .int .u8 48, .slice a10 n10 c10, .slice b10 m10 d10] 45)))
  replace HD1 := Lib.hid (HD1.out.below (Gr.alloc V11 (.cells #[.int .u8 160, .slice a1 n1 c1, .slice b1 m1 d1, .int .u8 2, .slice a2 n2 c2, .slice b2 m2 d2, .int .u8 48, .slice a3 n3 c3, .slice b3 m3 d3, .int .u8 48, .slice a4 n4 c4, .slice b4 m4 d4, .int .u8 48, .slice a5 n5 c5, .slice b5 m5 d5, .int .u8 48, .slice a6 n6 c6, .slice b6 m6 d6, .int .u8 48, .slice a10 n10 c10, .slice b10 m10 d10] 45)))
  replace HD2 := Lib.hid (HD2.out.below (Gr.alloc V11 (.cells #[.int .u8 160, .slice a1 n1 c1, .slice b1 m1 d1, .int .u8 2, .slice a2 n2 c2, .slice b2 m2 d2, .int .u8 48, .slice a3 n3 c3, .slice b3 m3 d3, .int .u8 48, .slice a4 n4 c4, .slice b4 m4 d4, .int .u8 48, .slice a5 n5 c5, .slice b5 m5 d5, .int .u8 48, .slice a6 n6 c6, .slice b6 m6 d6, .int .u8 48, .slice a10 n10 c10, .slice b10 m10 d10] 45)))
  replace HD3 := Lib.hid (HD3.out.below (Gr.alloc V11 (.cells #[.int .u8 160, .slice a1 n1 c1, .slice b1 m1 d1, .int .u8 2, .slice a2 n2 c2, .slice b2 m2 d2, .int .u8 48, .slice a3 n3 c3, .slice b3 m3 d3, .int .u8 48, .slice a4 n4 c4, .slice b4 m4 d4, .int .u8 48, .slice a5 n5 c5, .slice b5 m5 d5, .int .u8 48, .slice a6 n6 c6, .slice b6 m6 d6, .int .u8 48, .slice a10 n10 c10, .slice b10 m10 d10] 45)))
  replace HD4 := Lib.hid (HD4.out.below (Gr.alloc V11 (.cells #[.int .u8 160, .slice a1 n1 c1, .slice b1 m1 d1, .int .u8 2, .slice a2 n2 c2, .slice b2 m2 d2, .int .u8 48, .slice a3 n3 c3, .slice b3 m3 d3, .int .u8 48, .slice a4 n4 c4, .slice b4 m4 d4, .int .u8 48, .slice a5 n5 c5, .slice b5 m5 d5, .int .u8 48, .slice a6 n6 c6, .slice b6 m6 d6, .int .u8 48, .slice a10 n10 c10, .slice b10 m10 d10] 45)))
  replace HD5 := Lib.hid (HD5.out.below (Gr.alloc V11 (.cells #[.int .u8 160, .slice a1 n1 c1, .slice b1 m1 d1, .int .u8 2, .slice a2 n2 c2, .slice b2 m2 d2, .int .u8 48, .slice a3 n3 c3, .slice b3 m3 d3, .int .u8 48, .slice a4 n4 c4, .slice b4 m4 d4, .int .u8 48, .slice a5 n5 c5, .slice b5 m5 d5, .int .u8 48, .slice a6 n6 c6, .slice b6 m6 d6, .int .u8 48, .slice a10 n10 c10, .slice b10 m10 d10] 45)))
  replace HD6 := Lib.hid (HD6.out.below (Gr.alloc V11 (.cells #[.int .u8 160, .slice a1 n1 c1, .slice b1 m1 d1, .int .u8 2, .slice a2 n2 c2, .slice b2 m2 d2, .int .u8 48, .slice a3 n3 c3, .slice b3 m3 d3, .int .u8 48, .slice a4 n4 c4, .slice b4 m4 d4, .int .u8 48, .slice a5 n5 c5, .slice b5 m5 d5, .int .u8 48, .slice a6 n6 c6, .slice b6 m6 d6, .int .u8 48, .slice a10 n10 c10, .slice b10 m10 d10] 45)))
  replace HD7 := Lib.hid (HD7.out.below (Gr.alloc V11 (.cells #[.int .u8 160, .slice a1 n1 c1, .slice b1 m1 d1, .int .u8 2, .slice a2 n2 c2, .slice b2 m2 d2, .int .u8 48, .slice a3 n3 c3, .slice b3 m3 d3, .int .u8 48, .slice a4 n4 c4, .slice b4 m4 d4, .int .u8 48, .slice a5 n5 c5, .slice b5 m5 d5, .int .u8 48, .slice a6 n6 c6, .slice b6 m6 d6, .int .u8 48, .slice a10 n10 c10, .slice b10 m10 d10] 45)))
  replace HD8 := Lib.hid (HD8.out.below (Gr.alloc V11 (.cells #[.int .u8 160, .slice a1 n1 c1, .slice b1 m1 d1, .int .u8 2, .slice a2 n2 c2, .slice b2 m2 d2, .int .u8 48, .slice a3 n3 c3, .slice b3 m3 d3, .int .u8 48, .slice a4 n4 c4, .slice b4 m4 d4, .int .u8 48, .slice a5 n5 c5, .slice b5 m5 d5, .int .u8 48, .slice a6 n6 c6, .slice b6 m6 d6, .int .u8 48, .slice a10 n10 c10, .slice b10 m10 d10] 45)))
  replace HKT := Lib.hid (HKT.out.below (Gr.alloc V11 (.cells #[.int .u8 160, .slice a1 n1 c1, .slice b1 m1 d1, .int .u8 2, .slice a2 n2 c2, .slice b2 m2 d2, .int .u8 48, .slice a3 n3 c3, .slice b3 m3 d3, .int .u8 48, .slice a4 n4 c4, .slice b4 m4 d4, .int .u8 48, .slice a5 n5 c5, .slice b5 m5 d5, .int .u8 48, .slice a6 n6 c6, .slice b6 m6 d6, .int .u8 48, .slice a10 n10 c10, .slice b10 m10 d10] 45)))
  replace HD10 := Lib.hid (HD10.out.below (Gr.alloc V11 (.cells #[.int .u8 160, .slice a1 n1 c1, .slice b1 m1 d1, .int .u8 2, .slice a2 n2 c2, .slice b2 m2 d2, .int .u8 48, .slice a3 n3 c3, .slice b3 m3 d3, .int .u8 48, .slice a4 n4 c4, .slice b4 m4 d4, .int .u8 48, .slice a5 n5 c5, .slice b5 m5 d5, .int .u8 48, .slice a6 n6 c6, .slice b6 m6 d6, .int .u8 48, .slice a10 n10 c10, .slice b10 m10 d10] 45)))
  have hSL := hS11.alloc hS11.size (.cells #[.int .u8 160, .slice a1 n1 c1, .slice b1 m1 d1, .int .u8 2, .slice a2 n2 c2, .slice b2 m2 d2, .int .u8 48, .slice a3 n3 c3, .slice b3 m3 d3, .int .u8 48, .slice a4 n4 c4, .slice b4 m4 d4, .int .u8 48, .slice a5 n5 c5, .slice b5 m5 d5, .int .u8 48, .slice a6 n6 c6, .slice b6 m6 d6, .int .u8 48, .slice a10 n10 c10, .slice b10 m10 d10] 45)
  refine wpAnyL_pure (fun _ _ hS_ hb_ => gr_bel hS_ hb_) (i := 19) rfl (by kernel_rfl) (fun _ _ _ h => h) (pureG (by rfl) (by intro w_; go_simp; first | done | with_reducible rfl)) ?_
  try simp only [Act.put, List.getElem_toArray, List.getElem_cons_succ, List.getElem_cons_zero, List.setIfInBounds_toArray, List.set_cons_zero, List.set_cons_succ]
  refine wpAnyL_done (by kernel_rfl) ?_ _
  intro W9 hg9
  have hB9 := Below.trans hSL (Below.mono hg9 hSL.size)
  have k4 : W9.cell? ⟨w.heap.size, 4, none⟩ = some (.slice xa 0 xc) := (hB9.cell (World.block_lt_of_cell? W0 _ (blkc HBX.out (i := 4) rfl))).trans (blkc HBX.out (i := 4) rfl)
  have HB9 := Lib.hid (H00.out.trans (hB9.mono H00.out.size))
  have HRS9 := Lib.hid (HRS.out.below' hB9)
  have HKS := Lib.hid (HLT.out.below hg9)
  have HS9 := Lib.hid (show w.heap.size + 2 ≤ W9.heap.size by have h1 := hB9.size; have h2 := HS0.out; omega)
  clear hB9 hg9 hSL k0 k1 k2 k3
  go_wp2_with (first | (go_at_call 80; (with_reducible refine (seq_b W9 _ 7 7 _ rfl (by have := HS9.out; omega) HKS.out).mono ?_); rintro e w10 ⟨a10, n10, c10, b10, m10, d10, hn10, hm10, rfl, hd10, hb10⟩; have HN10 := Lib.hid hn10; have HM10 := Lib.hid hm10; have HD10 := Lib.hid hd10; have HB10 := Lib.hid (HB9.out.trans (Below.mono hb10 HB9.out.size)); have HRS10 := Lib.hid (HRS9.out.below' hb10); clear hn10 hm10 hd10 hb10) | (refine wpList_store_row (P := Tryz.prog) rfl 45 (.tmp 2) (.tmp 51) rfl (w.heap.size + 1) #[.int .u8 48, .slice a10 n10 c10, .slice b10 m10 d10] rfl rfl 45 _ HRS10.out info25 rfl (all_item _ _ _ _ _ _ _) ?_))
  have D3 := HRS10.out.setRow [.int .u8 48, .slice a10 n10 c10, .slice b10 m10 d10]
  refine bodyPost_ret (results_one Tryz.results40 _ _ (w.heap.size + 1) 45 _ (0, 0) _ rfl D3 Tryz.underlying45 rfl info25) rfl ?_
  exact fin_item2 HN10.out HM10.out (Nat.le_succ _) HD10.out HB10.out _
end Go.Proofs.YtbabpmncdphnjaaGreat
namespace Go.Proofs.YtbabpmncdphnjaaGreat
open Go.RowKit
set_option linter.unusedVariables false
set_option maxRecDepth 100000
set_option linter.unusedSimpArgs false
theorem blk_all6 {w : World} {g : Nat} {t : TypeId} {cs : List Value} (h : Blk w g t cs) : w.rangeAt g 0 cs := by
  intro j v hv
  rw [Nat.zero_add]
  exact (h.cell j).trans hv
set_option maxRecDepth 100000 in
set_option maxHeartbeats 8000000 in
theorem ofCert_0 (w : World) (sn : Nat) (hsn : sn < 18446744073709551616) (is su : ByteArray) (ib sb : List Nat) (hib : strL is = ib) (hsb : strL su = sb) (his : is.size ≤ 140737488355328) (hsu : su.size ≤ 140737488355328)
    (ka : Option Addr) (kn kc : Nat) (kb : List Nat) (hk : BIn w ka kn kc kb) (hkn : kn ≤ 140737488351232) (xa : Option Addr) (xc : Nat) (sa : Option Addr) (sl sc : Nat) (sg : List Nat) (hs : BIn w sa sl sc sg) (hsl : sl ≤ 140737488351232) :
    Calls Tryz.prog 42 #[certV sn is su ka kn kc xa 0 xc sa sl sc] w (ItR NoD 48 [] (crtK sn ib sb kb sg .nil) w) := by
  have h00 := ((Below.refl _ w).alloc (Nat.le_refl _) (.cells #[.int .u64 (sn : Nat), .string is, .string su, .slice ka kn kc, .slice xa 0 xc, .slice sa sl sc] 26)).alloc (by simp) (.cells #[.int .u8 0, .slice none 0 0, .slice none 0 0] 45)
  have HBX := Lib.hid ((Blk.new w 26 [.int .u64 (sn : Nat), .string is, .string su, .slice ka kn kc, .slice xa 0 xc, .slice sa sl sc]).alloc (.cells #[.int .u8 0, .slice none 0 0, .slice none 0 0] 45))
  have HRS := Lib.hid (Blk.new2 w (.cells #[.int .u64 (sn : Nat), .string is, .string su, .slice ka kn kc, .slice xa 0 xc, .slice sa sl sc] 26) 45 [.int .u8 0, .slice none 0 0, .slice none 0 0])
  have HS0 := Lib.hid (show w.heap.size + 2 ≤ ((w.alloc (.cells #[.int .u64 (sn : Nat), .string is, .string su, .slice ka kn kc, .slice xa 0 xc, .slice sa sl sc] 26)).alloc (.cells #[.int .u8 0, .slice none 0 0, .slice none 0 0] 45)).heap.size by simp)
  have H00 := Lib.hid h00
  have HK := Lib.hid (hk.below h00)
  have HG := Lib.hid (hs.below h00)
  have HKN := Lib.hid hkn
  have HSL := Lib.hid hsl
  have HI := Lib.hid hib
  have HSB := Lib.hid hsb
  have HIS := Lib.hid his
  have HSU := Lib.hid hsu
  have HSN := Lib.hid hsn
  clear h00 hk hkn hib hsb his hsu hsn hs hsl
  go_enter Tryz.func42, Tryz.ntmps42
  go_wp2_with fail
  generalize (w.alloc (.cells #[.int .u64 (sn : Nat), .string is, .string su, .slice ka kn kc, .slice xa 0 xc, .slice sa sl sc] 26)).alloc (.cells #[.int .u8 0, .slice none 0 0, .slice none 0 0] 45) = W0 at *
  have k5 := blkc HBX.out (i := 5) rfl
  refine wp_region_L (fun w_ => Below W0.heap.size W0 w_) [8] [3, 8] (by kernel_rfl) (Below.refl _ _).drew ?_
  refine wpAnyL_pure (fun _ _ hS_ hb_ => gr_bel hS_ hb_) (i := 3) rfl (by kernel_rfl) (fun _ _ _ h => h) (pureG (by rfl) (by intro w_; go_simp; first | done | with_reducible rfl)) ?_
  try simp only [Act.put, List.getElem_toArray, List.getElem_cons_succ, List.getElem_cons_zero, List.setIfInBounds_toArray, List.set_cons_zero, List.set_cons_succ]
  refine wpAnyL_take (fun _ _ hS_ hb_ => gr_bel hS_ hb_) (i := 0) rfl (by kernel_rfl) (fun _ _ _ h => h) (loadG (by rfl) _ _ rfl w.heap.size 0 rfl [.int .u64 (sn : Nat), .string is, .string su, .slice ka kn kc, .slice xa 0 xc, .slice sa sl sc] _ (fun w_ hS_ => rangeAt_below (blk_all6 HBX.out) hS_) Tryz.underlying26 rfl info55) ?_
  try simp only [Act.put, List.getElem_toArray, List.getElem_cons_succ, List.getElem_cons_zero, List.setIfInBounds_toArray, List.set_cons_zero, List.set_cons_succ]
  refine wpAnyL_take (fun _ _ hS_ hb_ => gr_bel hS_ hb_) (i := 4) rfl (by kernel_rfl) (fun _ _ _ h => h) (worldG (by rfl) (by intro w_ hS_; have q := (hS_.cell (World.block_lt_of_cell? W0 _ k5)).trans k5; go_simp; first | done | with_reducible rfl)) ?_
  try simp only [Act.put, List.getElem_toArray, List.getElem_cons_succ, List.getElem_cons_zero, List.setIfInBounds_toArray, List.set_cons_zero, List.set_cons_succ]
  refine wpAnyL_one (i := 1) (by kernel_rfl) (by decide) fun V1 hv1 hS1 => ?_
  have HSV1 : w.heap.size + 2 ≤ V1.heap.size := by { have h1 := hS1.size; have h2 := HS0.out; omega }
  replace HK := Lib.hid (HK.out.below hS1)
  replace HG := Lib.hid (HG.out.below hS1)
  refine wpOp_callE (i := 1) rfl (by rfl) rfl Tryz.func40 (by kernel_rfl) (by kernel_rfl) #[certV sn is su ka kn kc xa 0 xc sa sl sc] (by simp [Act.eval]) ((itB (base := w.heap.size + 2) (ofSigned_0 V1 sn HSN.out is su ib sb HI.out HSB.out HIS.out HSU.out ka kn kc kb HK.out HKN.out xa xc sa sl sc) HSV1 (fun _ h => h.elim)).mono ?_)
  rintro e w1 ⟨a1, n1, c1, b1, m1, d1, hn1, hm1, rfl, hd1, hb1⟩
  have HN1 := Lib.hid hn1; have HM1 := Lib.hid hm1; clear hn1 hm1
  replace HK := Lib.hid (HK.out.below hb1)
  replace HG := Lib.hid (HG.out.below hb1)
  have HD1 := Lib.hid hd1; clear hd1
  refine ⟨_, rfl, Gr.trans hS1 hb1, ?_⟩
  try simp only [Act.put, List.getElem_toArray, List.getElem_cons_succ, List.getElem_cons_zero, List.setIfInBounds_toArray, List.set_cons_zero, List.set_cons_succ]
  refine wpAnyL_one (i := 2) (by kernel_rfl) (by decide) fun V2 hv2 hS2 => ?_
  have HSV2 : w.heap.size + 2 ≤ V2.heap.size := by { have h1 := hS2.size; have h2 := HS0.out; omega }
  replace HK := Lib.hid (HK.out.below hv2)
  replace HG := Lib.hid (HG.out.below hv2)
  replace HD1 := Lib.hid (HD1.out.below hv2)
  refine wpOp_callE (i := 2) rfl (by rfl) rfl Tryz.func63 (by kernel_rfl) (by kernel_rfl) #[] (by simp [Act.eval]) ((itB (base := w.heap.size + 2) (ofAlgorithm_d V2) HSV2 (fun _ h => h.elim)).mono ?_)
  rintro e w2 ⟨a2, n2, c2, b2, m2, d2, hn2, hm2, rfl, hd2, hb2⟩
  have HN2 := Lib.hid hn2; have HM2 := Lib.hid hm2; clear hn2 hm2
  replace HK := Lib.hid (HK.out.below hb2)
  replace HG := Lib.hid (HG.out.below hb2)
  replace HD1 := Lib.hid (HD1.out.below hb2)
  have HD2 := Lib.hid hd2; clear hd2
  refine ⟨_, rfl, Gr.trans hS2 hb2, ?_⟩
  try simp only [Act.put, List.getElem_toArray, List.getElem_cons_succ, List.getElem_cons_zero, List.setIfInBounds_toArray, List.set_cons_zero, List.set_cons_succ]
  refine wpAnyL_one (i := 5) (by kernel_rfl) (by decide) fun V3 hv3 hS3 => ?_
  have HSV3 : w.heap.size + 2 ≤ V3.heap.size := by { have h1 := hS3.size; have h2 := HS0.out; omega }
  replace HK := Lib.hid (HK.out.below hv3)
  replace HG := Lib.hid (HG.out.below hv3)
  replace HD1 := Lib.hid (HD1.out.below hv3)
  replace HD2 := Lib.hid (HD2.out.below hv3)
  refine wpOp_callE (i := 5) rfl (by rfl) rfl Tryz.func81 (by kernel_rfl) (by kernel_rfl) #[.slice sa sl sc] (by simp [Act.eval]) ((itB (base := w.heap.size + 2) (OfBits_d V3 sg sa sl sc HG.out HSL.out) HSV3 (fun _ h => h.elim)).mono ?_)
  rintro e w3 ⟨a3, n3, c3, b3, m3, d3, hn3, hm3, rfl, hd3, hb3⟩
  have HN3 := Lib.hid hn3; have HM3 := Lib.hid hm3; clear hn3 hm3
  replace HK := Lib.hid (HK.out.below hb3)
  replace HG := Lib.hid (HG.out.below hb3)
  replace HD1 := Lib.hid (HD1.out.below hb3)
  replace HD2 := Lib.hid (HD2.out.below hb3)
  have HD3 := Lib.hid hd3; clear hd3
  refine ⟨_, rfl, Gr.trans hS3 hb3, ?_⟩
  try simp only [Act.put, List.getElem_toArray, List.getElem_cons_succ, List.getElem_cons_zero, List.setIfInBounds_toArray, List.set_cons_zero, List.set_cons_succ]
  refine wpAnyL_one (i := 6) (by kernel_rfl) (by decide) fun V6 hv6 hS6 => ?_
  have HSV6 : w.heap.size + 2 ≤ V6.heap.size := by { have h1 := hS6.size; have h2 := HS0.out; omega }
  replace HK := Lib.hid (HK.out.below hv6)
  replace HG := Lib.hid (HG.out.below hv6)
  replace HD1 := Lib.hid (HD1.out.below hv6)
  replace HD2 := Lib.hid (HD2.out.below hv6)
  replace HD3 := Lib.hid (HD3.out.below hv6)
  refine wpOp_run (i := 6) (v := .slice (some ⟨V6.heap.size, 0, none⟩) 3 3) (W2 := V6.alloc (.cells #[.int .u8 48, .slice a1 n1 c1, .slice b1 m1 d1, .int .u8 48, .slice a2 n2 c2, .slice b2 m2 d2, .int .u8 3, .slice a3 n3 c3, .slice b3 m3 d3] 45)) rfl (by rfl) (by go_simp; first | done | rfl) ?_
  refine ⟨hS6.alloc hS6.size _, ?_⟩
  try simp only [Act.put, List.getElem_toArray, List.getElem_cons_succ, List.getElem_cons_zero, List.setIfInBounds_toArray, List.set_cons_zero, List.set_cons_succ]
  have HLT := Lib.hid (lit_b (T := crtK sn ib sb kb sg .nil) (n := 3) (cons_b 48 rfl HN1.out HM1.out HD1.out (cons_b 48 rfl HN2.out HM2.out HD2.out (cons_b 3 rfl HN3.out HM3.out HD3.out nil_b))) rfl (by decide) HSV6)
  replace HK := Lib.hid (HK.out.below (Gr.alloc V6 (.cells #[.int .u8 48, .slice a1 n1 c1, .slice b1 m1 d1, .int .u8 48, .slice a2 n2 c2, .slice b2 m2 d2, .int .u8 3, .slice a3 n3 c3, .slice b3 m3 d3] 45)))
  replace HG := Lib.hid (HG.out.below (Gr.alloc V6 (.cells #[.int .u8 48, .slice a1 n1 c1, .slice b1 m1 d1, .int .u8 48, .slice a2 n2 c2, .slice b2 m2 d2, .int .u8 3, .slice a3 n3 c3, .slice b3 m3 d3] 45)))
  replace HD1 := Lib.hid (HD1.out.below (Gr.alloc V6 (.cells #[.int .u8 48, .slice a1 n1 c1, .slice b1 m1 d1, .int .u8 48, .slice a2 n2 c2, .slice b2 m2 d2, .int .u8 3, .slice a3 n3 c3, .slice b3 m3 d3] 45)))
  replace HD2 := Lib.hid (HD2.out.below (Gr.alloc V6 (.cells #[.int .u8 48, .slice a1 n1 c1, .slice b1 m1 d1, .int .u8 48, .slice a2 n2 c2, .slice b2 m2 d2, .int .u8 3, .slice a3 n3 c3, .slice b3 m3 d3] 45)))
  replace HD3 := Lib.hid (HD3.out.below (Gr.alloc V6 (.cells #[.int .u8 48, .slice a1 n1 c1, .slice b1 m1 d1, .int .u8 48, .slice a2 n2 c2, .slice b2 m2 d2, .int .u8 3, .slice a3 n3 c3, .slice b3 m3 d3] 45)))
  refine wpAnyL_one (i := 7) (by kernel_rfl) (by decide) fun V7 hv7 hS7 => ?_
  have HSV7 : w.heap.size + 2 ≤ V7.heap.size := by { have h1 := hS7.size; have h2 := HS0.out; omega }
  replace HK := Lib.hid (HK.out.below hv7)
  replace HG := Lib.hid (HG.out.below hv7)
  replace HD1 := Lib.hid (HD1.out.below hv7)
  replace HD2 := Lib.hid (HD2.out.below hv7)
  replace HD3 := Lib.hid (HD3.out.below hv7)
  replace HLT := Lib.hid (HLT.out.below hv7)
  refine wpOp_callE (i := 7) rfl (by rfl) rfl Tryz.func80 (by kernel_rfl) (by kernel_rfl) #[.slice (some ⟨V6.heap.size, 0, none⟩) 3 3] (by simp [Act.eval]) ((seq_b V7 _ 3 3 (crtK sn ib sb kb sg .nil) rfl HSV7 HLT.out).mono ?_)
  rintro e w7 ⟨a7, n7, c7, b7, m7, d7, hn7, hm7, rfl, hd7, hb7⟩
  have HN7 := Lib.hid hn7; have HM7 := Lib.hid hm7; clear hn7 hm7
  replace HK := Lib.hid (HK.out.below hb7)
  replace HG := Lib.hid (HG.out.below hb7)
  replace HD1 := Lib.hid (HD1.out.below hb7)
  replace HD2 := Lib.hid (HD2.out.below hb7)
  replace HD3 := Lib.hid (HD3.out.below hb7)
  replace HLT := Lib.hid (HLT.out.below hb7)
  have HD7 := Lib.hid hd7; clear hd7
  refine ⟨_, rfl, Gr.trans hS7 hb7, ?_⟩
  try simp only [Act.put, List.getElem_toArray, List.getElem_cons_succ, List.getElem_cons_zero, List.setIfInBounds_toArray, List.set_cons_zero, List.set_cons_succ]
  refine wpAnyL_oneF (i := 8) (by kernel_rfl) (by decide) (by kernel_rfl) (by decide) fun V8 hv8 => ?_
  have hB8 := Below.trans hS7 (Below.mono (hb7.trans (Below.mono hv8 hb7.size)) hS7.size)
  replace HD7 := Lib.hid (HD7.out.below hv8)
  refine (StoresG.mk (g := w.heap.size + 1) (t := 45) (cs := [.int .u8 48, .slice a7 n7 c7, .slice b7 m7 d7]) (by rfl) _ _ _ rfl rfl rfl info25 (by intro v hv; simp at hv; rcases hv with rfl | rfl | rfl <;> rfl)).wpOp (i := 8) rfl (HRS.out.below' hB8) rfl ?_
  try simp only [Act.put, List.getElem_toArray, List.getElem_cons_succ, List.getElem_cons_zero, List.setIfInBounds_toArray, List.set_cons_zero, List.set_cons_succ]
  clear hB8
  refine wpAnyL_done (by kernel_rfl) ?_ _
  intro W9 hg9
  have hB9 := Below.trans hS7 (Below.mono (hb7.trans (Below.mono hv8 hb7.size)) hS7.size)
  have hrow := (below_setRow' (H00.out.trans (hB9.mono H00.out.size)) (Nat.le_succ w.heap.size) #[.int .u8 48, .slice a7 n7 c7, .slice b7 m7 d7])
  have HB10 := Lib.hid (hrow.trans (Below.mono hg9 hrow.size))
  have HRS9 := Lib.hid ((((HRS.out.below' hB9).setRow [.int .u8 48, .slice a7 n7 c7, .slice b7 m7 d7])).below' hg9)
  have hd9 := (HD7.out.row (w.heap.size + 1) #[.int .u8 48, .slice a7 n7 c7, .slice b7 m7 d7] (fun h => by have : w.heap.size + 2 ≤ w.heap.size + 1 := h; omega)).below hg9
  go_wp2_with fail
  refine bodyPost_ret (results_one Tryz.results42 _ _ (w.heap.size + 1) 45 _ (0, 0) _ rfl HRS9.out Tryz.underlying45 rfl info25) rfl ?_
  exact ⟨a7, n7, c7, b7, m7, d7, HN7.out, HM7.out, rfl, hd9.mono (fun j (hj : w.heap.size + 2 ≤ j) _ => .inr (by omega)), HB10.out⟩
end Go.Proofs.YtbabpmncdphnjaaGreat
namespace Go.Proofs.YtbabpmncdphnjaaGreat
open Go.RowKit
set_option linter.unusedVariables false
set_option maxRecDepth 100000
set_option linter.unusedSimpArgs false
def nameOk (l : List Nat) : Bool := decide (1 ≤ l.length ∧ l.length ≤ 64 ∧ ∀ i, i < l.length → 32 ≤ l.getD i 0 ∧ l.getD i 0 ≤ 126)
theorem nameOk_f {l : List Nat} (h : ¬ (1 ≤ l.length ∧ l.length ≤ 64)) : nameOk l = false := decide_eq_false (fun h2 => h ⟨h2.1, h2.2.1⟩)
theorem nameOk_x {l : List Nat} {i : Nat} (hi : i < l.length) (h : ¬ (32 ≤ l.getD i 0 ∧ l.getD i 0 ≤ 126)) : nameOk l = false := decide_eq_false (fun h2 => h (h2.2.2 i hi))
theorem retBool {x y : Bool} (h : y = x) : Ending.returned (.bool x) = Ending.returned (.bool y) := by rw [h]
set_option maxRecDepth 100000 in
set_option maxHeartbeats 8000000 in
theorem isName_any (s : ByteArray) (b : List Nat) (hb : strL s = b) (w : World) : Calls Tryz.prog 72 #[.string s] w fun e w' => e = .returned (.bool (nameOk b)) ∧ Below w.heap.size w w' := by
  have hlen : b.length = s.size := by rw [← hb]; exact strL_len s
  have h8 : ∀ k, b.getD k 0 < 256 := fun k => by rw [← hb]; exact strL_lt s k
  by_cases h1 : s.size < 1
  · have hi : (s.size : Int) < 1 := by omega
    have HX := Lib.hid (nameOk_f (l := b) (by omega))
    go_enter Tryz.func72, Tryz.ntmps72
    go_wp2
    go_ret
    exact ⟨retBool HX.out, Below.refl _ _⟩
  have hi1 : ¬ (s.size : Int) < 1 := by omega
  by_cases h2 : 64 < s.size
  · have hi : (64 : Int) < (s.size : Int) := by omega
    have HX := Lib.hid (nameOk_f (l := b) (by omega))
    go_enter Tryz.func72, Tryz.ntmps72
    go_wp2
    go_ret
    exact ⟨retBool HX.out, Below.refl _ _⟩
  have hi2 : ¬ (64 : Int) < (s.size : Int) := by omega
  have hcv := run_bytes_of_string (P := Tryz.prog) w 9 22 5 s Tryz.underlying9 Tryz.underlying22 Tryz.underlying5
  have hg1 : s.size ≤ grownCap w s.size 0 5 := grownCap_ge _ _ _ _
  have hg2 : grownCap w s.size 0 5 ≤ maxLen := grownCap_le_maxLen _ _ _ _ (by simp only [maxLen]; omega)
  generalize grownCap w s.size 0 5 = cp at *
  have BEL := Lib.hid ((((Below.refl w.heap.size w).drew).alloc (by simp) (.cells (bytesRow s cp) 5 ((bytesRow s cp).size, (bytesRow s cp).size + 1))))
  have HX := Lib.hid (show (w.drew.alloc (.cells (bytesRow s cp) 5 ((bytesRow s cp).size, (bytesRow s cp).size + 1))).heap[w.heap.size]? = some (.cells (bytesRow s cp) 5 ((bytesRow s cp).size, (bytesRow s cp).size + 1)) by
    have := heap_alloc_new w.drew (.cells (bytesRow s cp) 5 ((bytesRow s cp).size, (bytesRow s cp).size + 1))
    simpa using this)
  have HIN := Lib.hid (str_in HX.out hg1 hg2 (by omega))
  rw [hb] at HIN
  have HL := Lib.hid hlen
  have H8 := Lib.hid h8
  obtain ⟨n, hn⟩ : ∃ n, s.size = n := ⟨_, rfl⟩
  rw [hn] at hcv HIN HL h1 h2 hi1 hi2
  have HNN := Lib.hid hn
  clear hg1 hg2 hlen h8 hb hn
  go_enter Tryz.func72, Tryz.ntmps72
  have hsz : s.size = n := HNN.out
  generalize hW2 : w.drew.alloc (.cells (bytesRow s cp) 5 ((bytesRow s cp).size, (bytesRow s cp).size + 1)) = W2 at *
  go_wp2_with fail
  go_loopw [16] (fun i wr => ∃ j : Nat, i = .int .i64 (j : Nat) ∧ j ≤ n ∧ (∀ q, q < j → 32 ≤ b.getD q 0 ∧ b.getD q 0 ≤ 126) ∧ Below W2.heap.size W2 wr) (fun i _ => n - (intOf i).toNat)
  case atStart => exact ⟨0, rfl, Nat.zero_le _, fun q h => by omega, Below.refl _ _⟩
  case round =>
    obtain ⟨j, rfl, hj, hall, hbel⟩ := hrel
    have HA := Lib.hid hall
    have HBr := Lib.hid (BEL.out.trans (hbel.mono BEL.out.size))
    have HB2 := Lib.hid hbel
    by_cases hjn : j < n
    · have hji : (j : Int) < (n : Int) := by omega
      obtain ⟨B', o', he, hc⟩ := (HIN.out.below hbel).1.2.2.2.resolve_left (by omega)
      injection he with he
      injection he with e1 e2
      subst e1 e2
      have hcj := hc j hjn
      rw [Nat.zero_add] at hcj
      have h8j := H8.out j
      have HNX := Lib.hid (fun h => nameOk_x (l := b) (i := j) (by rw [HL.out]; exact hjn) h)
      clear hc hall hbel
      have HALL := Lib.hid (fun (hx : 32 ≤ b.getD j 0 ∧ b.getD j 0 ≤ 126) q (hq : q < j + 1) => (by rcases Nat.lt_succ_iff_lt_or_eq.1 hq with h | h; exact HA.out q h; subst h; exact hx : 32 ≤ b.getD q 0 ∧ b.getD q 0 ≤ 126))
      generalize b.getD j 0 = y at *
      by_cases hlo : y < 32
      · have hl1 : (y : Int) < 32 := by omega
        go_wp2_with fail
        go_ret
        exact ⟨retBool (HNX.out (by omega)), HBr.out⟩
      · have hl1 : ¬ (y : Int) < 32 := by omega
        by_cases hhi : 126 < y
        · have hl2 : (126 : Int) < (y : Int) := by omega
          go_wp2_with fail
          go_ret
          exact ⟨retBool (HNX.out (by omega)), HBr.out⟩
        · have hl2 : ¬ (126 : Int) < (y : Int) := by omega
          go_wp2_with fail
          go_roundw
          case rel => exact ⟨j + 1, by go_num, by omega, HALL.out (by omega), HB2.out⟩
          case measure => simp [intOf]; omega
    · have hji : ¬ (j : Int) < (n : Int) := by omega
      have HY := Lib.hid (show nameOk b = true from decide_eq_true ⟨by rw [HL.out]; omega, by rw [HL.out]; omega, fun q hq => HA.out q (by rw [HL.out] at hq; omega)⟩)
      clear hall hbel
      go_wp2_with fail
      go_ret
      exact ⟨retBool HY.out, HBr.out⟩
set_option maxRecDepth 100000 in
theorem lookAtSig_ok (sn : Nat) (is su : ByteArray) (ka : Option Addr) (kn kc : Nat) (xa : Option Addr) (xn xc : Nat) (sa : Option Addr) (sc : Nat) (w : World) : Calls Tryz.prog 35 #[certV sn is su ka kn kc xa xn xc sa 3373 sc] w fun e w' => e = .returned (.tuple #[]) ∧ Below w.heap.size w w' := by
  have BEL := Lib.hid ((Below.refl _ w).alloc (Nat.le_refl _) (.cells #[.int .u64 (sn : Nat), .string is, .string su, .slice ka kn kc, .slice xa xn xc, .slice sa 3373 sc] 26))
  have HBX := Lib.hid (Blk.new w 26 [.int .u64 (sn : Nat), .string is, .string su, .slice ka kn kc, .slice xa xn xc, .slice sa 3373 sc])
  go_enter Tryz.func35, Tryz.ntmps35
  generalize hW1 : w.alloc (.cells #[.int .u64 (sn : Nat), .string is, .string su, .slice ka kn kc, .slice xa xn xc, .slice sa 3373 sc] 26) = W1 at *
  have k5 := blkc HBX.out (i := 5) rfl
  go_wp2_with (first | (go_at_call 54; (with_reducible refine (cmust_ok _ _).mono ?_); rintro e w2 ⟨rfl, rfl⟩))
  go_end0
  exact ⟨rfl, BEL.out⟩
set_option maxRecDepth 100000 in
set_option maxHeartbeats 4000000 in
theorem lookAtSigned_0 (sn : Nat) (is su : ByteArray) (ib sb : List Nat) (hib : strL is = ib) (hsb : strL su = sb) (h1 : nameOk ib = true) (h2 : nameOk sb = true) (ka : Option Addr) (kc : Nat) (xa : Option Addr) (xc : Nat) (sa : Option Addr) (sl sc : Nat) (w : World) :
    Calls Tryz.prog 36 #[certV sn is su ka 2017 kc xa 0 xc sa sl sc] w fun e w' => e = .returned (.tuple #[]) ∧ Below w.heap.size w w' := by
  have BEL := Lib.hid ((Below.refl _ w).alloc (Nat.le_refl _) (.cells #[.int .u64 (sn : Nat), .string is, .string su, .slice ka 2017 kc, .slice xa 0 xc, .slice sa sl sc] 26))
  have HBX := Lib.hid (Blk.new w 26 [.int .u64 (sn : Nat), .string is, .string su, .slice ka 2017 kc, .slice xa 0 xc, .slice sa sl sc])
  have HC1 := Lib.hid (fun W => by have := isName_any is ib hib W; rwa [h1] at this : ∀ W, Calls Tryz.prog 72 #[.string is] W fun e w' => e = .returned (.bool true) ∧ Below W.heap.size W w')
  have HC2 := Lib.hid (fun W => by have := isName_any su sb hsb W; rwa [h2] at this : ∀ W, Calls Tryz.prog 72 #[.string su] W fun e w' => e = .returned (.bool true) ∧ Below W.heap.size W w')
  clear h1 h2 hib hsb
  go_enter Tryz.func36, Tryz.ntmps36
  generalize hW1 : w.alloc (.cells #[.int .u64 (sn : Nat), .string is, .string su, .slice ka 2017 kc, .slice xa 0 xc, .slice sa sl sc] 26) = W1 at *
  have k1 := blkc HBX.out (i := 1) rfl
  go_wp2_with (first | (go_at_call 72; ((with_reducible refine (HC1.out _).mono ?_); rintro e w2 ⟨rfl, hb2⟩; have HBX := Lib.hid (HBX.out.below' hb2); have BEL := Lib.hid (BEL.out.trans (Below.mono hb2 BEL.out.size)); have k2 := blkc HBX.out (i := 2) rfl)) | (go_at_call 72; (with_reducible refine (HC2.out _).mono ?_); rintro e w3 ⟨rfl, hb3⟩; have HBX := Lib.hid (HBX.out.below' hb3); have BEL := Lib.hid (BEL.out.trans (Below.mono hb3 BEL.out.size)); have k3 := blkc HBX.out (i := 3) rfl; have k4 := blkc HBX.out (i := 4) rfl) | (go_at_call 54; (with_reducible refine (cmust_ok _ _).mono ?_); rintro e w4 ⟨rfl, rfl⟩))
  go_loopw [32] (fun i wr => i = .int .i64 0 ∧ Below w.heap.size w wr ∧ Blk wr w.heap.size 26 [.int .u64 (sn : Nat), .string is, .string su, .slice ka 2017 kc, .slice xa 0 xc, .slice sa sl sc]) (fun _ _ => 0)
  case atStart => exact ⟨rfl, BEL.out, HBX.out⟩
  case round =>
    obtain ⟨rfl, hb5, hx5⟩ := hrel
    have k4 := blkc hx5 (i := 4) rfl
    have HX5 := Lib.hid hx5
    have HB5 := Lib.hid hb5
    clear hx5 hb5
    go_wp2_with fail
    go_loopw [49] (fun i wr => i = .int .i64 0 ∧ Below w.heap.size w wr ∧ Blk wr w.heap.size 26 [.int .u64 (sn : Nat), .string is, .string su, .slice ka 2017 kc, .slice xa 0 xc, .slice sa sl sc]) (fun _ _ => 0)
    case atStart => exact ⟨rfl, HB5.out, HX5.out⟩
    case round =>
      obtain ⟨rfl, hb6, hx6⟩ := hrel
      have k4 := blkc hx6 (i := 4) rfl
      have HX6 := Lib.hid hx6
      have HB6 := Lib.hid hb6
      clear hx6 hb6
      go_wp2_with fail
      go_loopw [66] (fun i wr => i = .int .i64 0 ∧ Below w.heap.size w wr) (fun _ _ => 0)
      case atStart => exact ⟨rfl, HB6.out⟩
      case round =>
        obtain ⟨rfl, hb7⟩ := hrel
        have HB7 := Lib.hid hb7
        clear hb7
        go_wp2_with fail
        go_end0
        exact ⟨rfl, HB7.out⟩
end Go.Proofs.YtbabpmncdphnjaaGreat
namespace Go.Proofs.YtbabpmncdphnjaaGreat
open Go.RowKit
set_option linter.unusedVariables false
set_option maxRecDepth 100000
set_option linter.unusedSimpArgs false
theorem cwhy_any (c : Int) (w : World) : Calls Tryz.prog 31 #[.iface 27 (.int .i64 c)] w fun e w' => e = .returned (.int .i64 c) ∧ w = w' := by
  have h := assert26 c
  go_enter Tryz.func31, Tryz.ntmps31
  go_wp2
  go_ret
  exact ⟨rfl, rfl⟩
set_option maxHeartbeats 2000000 in
theorem catchB (p q : Nat) (c : Int) (v0 : Value) (x : Int) (w : World) (hne : p ≠ q) (hp : Blk w p 22 [v0]) (hq : Blk w q 27 [.int .i64 x]) :
    CallsD Tryz.prog 41 #[.pointer (some ⟨p, 0, none⟩), .pointer (some ⟨q, 0, none⟩)] (.panicking [{ v := .iface 27 (.int .i64 c), recovered := false }]) w fun e u' w' =>
      e = .returned (.tuple #[]) ∧ u' = .panicking [{ v := .iface 27 (.int .i64 c), recovered := true }] ∧ w' = (w.setCell ⟨p, 0, none⟩ (.slice none 0 0)).setCell ⟨q, 0, none⟩ (.int .i64 c) := by
  refine callsD_of_wpS Tryz.func41 rfl fun c₀ cs hu => ?_
  apply wpS_seq
  apply wpS_region
  simp [wpOpsS, go_sem, recoverD, hu, Tryz.ntmps41, Exit.thenS]
  refine wpS_of_wp ?_
  have e1 : (#[Value.pointer (some { block := p, off := 0 }), Value.pointer (some { block := q, off := 0 })] ++
          ((Array.replicate 6 undef).setIfInBounds 1 (Value.iface 27 (Value.int IntKind.i64 c))).setIfInBounds 0
            (Value.iface 27 (Value.int IntKind.i64 c))) = #[Value.pointer (some { block := p, off := 0 }), Value.pointer (some { block := q, off := 0 }), (Value.iface 27 (Value.int IntKind.i64 c)), (Value.iface 27 (Value.int IntKind.i64 c)), undef, undef, undef, undef] := rfl
  rw [e1]
  have hp1 := hp.cell 0
  have hp2 := hp.free 0
  have HQ := hq.other ⟨p, 0, none⟩ (.slice none 0 0) (Ne.symm hne)
  have hq1 := HQ.cell 0
  have hq2 := HQ.free 0
  simp at hp1 hq1
  clear hp hq HQ
  generalize hQ : (bodyPostS Tryz.prog Tryz.f41 c₀ cs fun e u' w' => _) = QQ
  have HQQ := Lib.hid hQ
  clear hQ
  go_wp2_with (go_at_call 31; refine (cwhy_any c _).mono ?_; rintro e w' ⟨rfl, rfl⟩)
  rw [← HQQ.out]
  exact ⟨rfl, _, rfl, .tuple #[], by simp [results, Tryz.results41], rfl, rfl, rfl⟩
theorem idleB (p q : Addr) (w : World) :
    CallsD Tryz.prog 41 #[.pointer (some p), .pointer (some q)] .returning w fun e u' w' => e = .returned (.tuple #[]) ∧ u' = .returning ∧ w = w' := by
  refine callsD_of_wpS Tryz.func41 rfl fun c₀ cs hu => ?_
  apply wpS_seq
  apply wpS_region
  simp [wpOpsS, go_sem, recoverD, hu, Tryz.ntmps41, Exit.thenS]
  refine wpS_of_wp ?_
  generalize hQ : (bodyPostS Tryz.prog Tryz.f41 c₀ cs fun e u' w' => _) = QQ
  have HQQ := Lib.hid hQ
  clear hQ
  have e1 : (#[Value.pointer (some p), Value.pointer (some q)] ++ ((Array.replicate 6 undef).setIfInBounds 1 Value.nilIface).setIfInBounds 0 Value.nilIface) = #[Value.pointer (some p), Value.pointer (some q), Value.nilIface, Value.nilIface, undef, undef, undef, undef] := rfl
  rw [e1]
  go_wp2
  rw [← HQQ.out]
  exact ⟨rfl, c₀.mode, rfl, .tuple #[], by simp [results, Tryz.results41], rfl, hu, rfl⟩
theorem resB (tmps : Array Value) (p q : Nat) (a : Option Addr) (n c : Nat) (x : Int) (w : World) (h2 : tmps.getD 2 undef = .pointer (some ⟨p, 0, none⟩)) (h3 : tmps.getD 3 undef = .pointer (some ⟨q, 0, none⟩)) (hp : Blk w p 22 [.slice a n c]) (hq : Blk w q 27 [.int .i64 x]) :
    (results Tryz.f14 tmps).run Tryz.prog w = .ok (.tuple #[.slice a n c, .int .i64 x]) w := by
  have h2' : tmps[2]?.getD undef = .pointer (some ⟨p, 0, none⟩) := by simpa using h2
  have h3' : tmps[3]?.getD undef = .pointer (some ⟨q, 0, none⟩) := by simpa using h3
  have hq1 := hq.cell 0
  have hp1 := hp.cell 0
  simp at hq1 hp1
  have hl : (loadVar 22 ⟨p, 0, none⟩).run Tryz.prog w = .ok (.slice a n c) w := by simp [go_sem, hp1]
  have hl2 : (loadVar 27 ⟨q, 0, none⟩).run Tryz.prog w = .ok (.int .i64 x) w := by simp [go_sem, hq1]
  simp [results, Tryz.results14, h2', h3', asAddr, hl, hl2]
theorem exitB_bad {R : Ending → World → Prop} {tmps : Array Value} (p q : Nat) (c : Int) (v0 : Value) (x : Int) (wx : World) (hne : p ≠ q) (hp : Blk wx p 22 [v0]) (hq : Blk wx q 27 [.int .i64 x])
    (h2 : tmps.getD 2 undef = .pointer (some ⟨p, 0, none⟩)) (h3 : tmps.getD 3 undef = .pointer (some ⟨q, 0, none⟩))
    (hR : R (.returned (.tuple #[.slice none 0 0, .int .i64 c])) ((wx.setCell ⟨p, 0, none⟩ (.slice none 0 0)).setCell ⟨q, 0, none⟩ (.int .i64 c))) :
    bodyPostD Tryz.prog Tryz.f14 R (Exit.panic [{ v := .iface 27 (.int .i64 c), recovered := false }]) { tmps := tmps, defers := [{ target := Target.fn (Fn.func 41) #[.pointer (some ⟨p, 0, none⟩), .pointer (some ⟨q, 0, none⟩)], args := #[] }] } wx := by
  refine leaves_cons (f := 41) (args := #[.pointer (some ⟨p, 0, none⟩), .pointer (some ⟨q, 0, none⟩)]) (by simp) (by simp [go_sem]) ?_
  refine (catchB p q c v0 x _ hne hp hq).mono ?_
  rintro e u' w'' ⟨rfl, rfl, rfl⟩
  have hp2 := (hp.set 0 (.slice none 0 0)).other ⟨q, 0, none⟩ (.int .i64 c) hne
  have hq2 := (hq.other ⟨p, 0, none⟩ (.slice none 0 0) (Ne.symm hne)).set 0 (.int .i64 c)
  exact ⟨_, resB tmps p q none 0 0 c _ h2 h3 hp2 hq2, hR⟩
theorem exitB_good {R : Ending → World → Prop} {tmps : Array Value} (p q : Nat) (a : Option Addr) (n c : Nat) (x : Int) (wx : World) (hp : Blk wx p 22 [.slice a n c]) (hq : Blk wx q 27 [.int .i64 x])
    (h2 : tmps.getD 2 undef = .pointer (some ⟨p, 0, none⟩)) (h3 : tmps.getD 3 undef = .pointer (some ⟨q, 0, none⟩))
    (hR : R (.returned (.tuple #[.slice a n c, .int .i64 x])) wx) :
    bodyPostD Tryz.prog Tryz.f14 R Exit.ret { tmps := tmps, defers := [{ target := Target.fn (Fn.func 41) #[.pointer (some ⟨p, 0, none⟩), .pointer (some ⟨q, 0, none⟩)], args := #[] }] } wx := by
  refine leaves_cons (f := 41) (args := #[.pointer (some ⟨p, 0, none⟩), .pointer (some ⟨q, 0, none⟩)]) (by simp) (by simp [go_sem]) ?_
  refine (idleB _ _ _).mono ?_
  rintro e u' w'' ⟨rfl, rfl, rfl⟩
  exact ⟨_, resB tmps p q a n c x _ h2 h3 hp hq, hR⟩
set_option maxHeartbeats 2000000 in
theorem catchS (p q : Nat) (c : Int) (v0 : Value) (x : Int) (w : World) (hne : p ≠ q) (hp : Blk w p 22 [v0]) (hq : Blk w q 27 [.int .i64 x]) :
    CallsD Tryz.prog 39 #[.pointer (some ⟨p, 0, none⟩), .pointer (some ⟨q, 0, none⟩)] (.panicking [{ v := .iface 27 (.int .i64 c), recovered := false }]) w fun e u' w' =>
      e = .returned (.tuple #[]) ∧ u' = .panicking [{ v := .iface 27 (.int .i64 c), recovered := true }] ∧ w' = (w.setCell ⟨p, 0, none⟩ (.slice none 0 0)).setCell ⟨q, 0, none⟩ (.int .i64 c) := by
  refine callsD_of_wpS Tryz.func39 rfl fun c₀ cs hu => ?_
  apply wpS_seq
  apply wpS_region
  simp [wpOpsS, go_sem, recoverD, hu, Tryz.ntmps39, Exit.thenS]
  refine wpS_of_wp ?_
  have e1 : (#[Value.pointer (some { block := p, off := 0 }), Value.pointer (some { block := q, off := 0 })] ++
          ((Array.replicate 6 undef).setIfInBounds 1 (Value.iface 27 (Value.int IntKind.i64 c))).setIfInBounds 0
            (Value.iface 27 (Value.int IntKind.i64 c))) = #[Value.pointer (some { block := p, off := 0 }), Value.pointer (some { block := q, off := 0 }), (Value.iface 27 (Value.int IntKind.i64 c)), (Value.iface 27 (Value.int IntKind.i64 c)), undef, undef, undef, undef] := rfl
  rw [e1]
  have hp1 := hp.cell 0
  have hp2 := hp.free 0
  have HQ := hq.other ⟨p, 0, none⟩ (.slice none 0 0) (Ne.symm hne)
  have hq1 := HQ.cell 0
  have hq2 := HQ.free 0
  simp at hp1 hq1
  clear hp hq HQ
  generalize hQ : (bodyPostS Tryz.prog Tryz.f39 c₀ cs fun e u' w' => _) = QQ
  have HQQ := Lib.hid hQ
  clear hQ
  go_wp2_with (go_at_call 31; refine (cwhy_any c _).mono ?_; rintro e w' ⟨rfl, rfl⟩)
  rw [← HQQ.out]
  exact ⟨rfl, _, rfl, .tuple #[], by simp [results, Tryz.results39], rfl, rfl, rfl⟩
theorem idleS (p q : Addr) (w : World) :
    CallsD Tryz.prog 39 #[.pointer (some p), .pointer (some q)] .returning w fun e u' w' => e = .returned (.tuple #[]) ∧ u' = .returning ∧ w = w' := by
  refine callsD_of_wpS Tryz.func39 rfl fun c₀ cs hu => ?_
  apply wpS_seq
  apply wpS_region
  simp [wpOpsS, go_sem, recoverD, hu, Tryz.ntmps39, Exit.thenS]
  refine wpS_of_wp ?_
  generalize hQ : (bodyPostS Tryz.prog Tryz.f39 c₀ cs fun e u' w' => _) = QQ
  have HQQ := Lib.hid hQ
  clear hQ
  have e1 : (#[Value.pointer (some p), Value.pointer (some q)] ++ ((Array.replicate 6 undef).setIfInBounds 1 Value.nilIface).setIfInBounds 0 Value.nilIface) = #[Value.pointer (some p), Value.pointer (some q), Value.nilIface, Value.nilIface, undef, undef, undef, undef] := rfl
  rw [e1]
  go_wp2
  rw [← HQQ.out]
  exact ⟨rfl, c₀.mode, rfl, .tuple #[], by simp [results, Tryz.results39], rfl, hu, rfl⟩
theorem resS (tmps : Array Value) (p q : Nat) (a : Option Addr) (n c : Nat) (x : Int) (w : World) (h2 : tmps.getD 2 undef = .pointer (some ⟨p, 0, none⟩)) (h3 : tmps.getD 3 undef = .pointer (some ⟨q, 0, none⟩)) (hp : Blk w p 22 [.slice a n c]) (hq : Blk w q 27 [.int .i64 x]) :
    (results Tryz.f13 tmps).run Tryz.prog w = .ok (.tuple #[.slice a n c, .int .i64 x]) w := by
  have h2' : tmps[2]?.getD undef = .pointer (some ⟨p, 0, none⟩) := by simpa using h2
  have h3' : tmps[3]?.getD undef = .pointer (some ⟨q, 0, none⟩) := by simpa using h3
  have hq1 := hq.cell 0
  have hp1 := hp.cell 0
  simp at hq1 hp1
  have hl : (loadVar 22 ⟨p, 0, none⟩).run Tryz.prog w = .ok (.slice a n c) w := by simp [go_sem, hp1]
  have hl2 : (loadVar 27 ⟨q, 0, none⟩).run Tryz.prog w = .ok (.int .i64 x) w := by simp [go_sem, hq1]
  simp [results, Tryz.results13, h2', h3', asAddr, hl, hl2]
theorem exitS_bad {R : Ending → World → Prop} {tmps : Array Value} (p q : Nat) (c : Int) (v0 : Value) (x : Int) (wx : World) (hne : p ≠ q) (hp : Blk wx p 22 [v0]) (hq : Blk wx q 27 [.int .i64 x])
    (h2 : tmps.getD 2 undef = .pointer (some ⟨p, 0, none⟩)) (h3 : tmps.getD 3 undef = .pointer (some ⟨q, 0, none⟩))
    (hR : R (.returned (.tuple #[.slice none 0 0, .int .i64 c])) ((wx.setCell ⟨p, 0, none⟩ (.slice none 0 0)).setCell ⟨q, 0, none⟩ (.int .i64 c))) :
    bodyPostD Tryz.prog Tryz.f13 R (Exit.panic [{ v := .iface 27 (.int .i64 c), recovered := false }]) { tmps := tmps, defers := [{ target := Target.fn (Fn.func 39) #[.pointer (some ⟨p, 0, none⟩), .pointer (some ⟨q, 0, none⟩)], args := #[] }] } wx := by
  refine leaves_cons (f := 39) (args := #[.pointer (some ⟨p, 0, none⟩), .pointer (some ⟨q, 0, none⟩)]) (by simp) (by simp [go_sem]) ?_
  refine (catchS p q c v0 x _ hne hp hq).mono ?_
  rintro e u' w'' ⟨rfl, rfl, rfl⟩
  have hp2 := (hp.set 0 (.slice none 0 0)).other ⟨q, 0, none⟩ (.int .i64 c) hne
  have hq2 := (hq.other ⟨p, 0, none⟩ (.slice none 0 0) (Ne.symm hne)).set 0 (.int .i64 c)
  exact ⟨_, resS tmps p q none 0 0 c _ h2 h3 hp2 hq2, hR⟩
theorem exitS_good {R : Ending → World → Prop} {tmps : Array Value} (p q : Nat) (a : Option Addr) (n c : Nat) (x : Int) (wx : World) (hp : Blk wx p 22 [.slice a n c]) (hq : Blk wx q 27 [.int .i64 x])
    (h2 : tmps.getD 2 undef = .pointer (some ⟨p, 0, none⟩)) (h3 : tmps.getD 3 undef = .pointer (some ⟨q, 0, none⟩))
    (hR : R (.returned (.tuple #[.slice a n c, .int .i64 x])) wx) :
    bodyPostD Tryz.prog Tryz.f13 R Exit.ret { tmps := tmps, defers := [{ target := Target.fn (Fn.func 39) #[.pointer (some ⟨p, 0, none⟩), .pointer (some ⟨q, 0, none⟩)], args := #[] }] } wx := by
  refine leaves_cons (f := 39) (args := #[.pointer (some ⟨p, 0, none⟩), .pointer (some ⟨q, 0, none⟩)]) (by simp) (by simp [go_sem]) ?_
  refine (idleS _ _ _).mono ?_
  rintro e u' w'' ⟨rfl, rfl, rfl⟩
  exact ⟨_, resS tmps p q a n c x _ h2 h3 hp hq, hR⟩
theorem BIn.cell1 {w : World} {a : Option Addr} {n c g : Nat} {l : List Nat} {t : TypeId} {v u : Value} (h : BIn w a n c l) (hb : Blk w g t [v]) (hv : ∀ z, v ≠ .int .u8 z) : BIn (w.setCell ⟨g, 0, none⟩ u) a n c l := by
  refine h.grown (grown_setCell w ⟨g, 0, none⟩ u) (fun b hab hn e => ?_)
  obtain ⟨b', o', hA, hc⟩ := h.1.2.2.2.resolve_left (by omega)
  rw [hab] at hA
  injection hA with hA
  subst hA
  have := hc 0 hn
  simp only at e
  subst e
  rw [hb.cell] at this
  rcases Nat.eq_zero_or_pos (o' + 0) with h0 | h0
  · rw [h0] at this; simp at this; exact hv _ this
  · rw [List.getElem?_eq_none (by simp; omega)] at this; cases this
theorem enc_k {t : Nat} {b : List Nat} {k : Tr} {l : List Nat} (h : encE t b k = .ok l) {w : World} {a : Option Addr} {c : Nat} {a' : Option Addr} {c' n m : Nat} (hin : ItIn w t a c a' c' b k) (hn : b.length = n) (hm : k.len = m) {ti : Int} (hti : (t : Int) = ti := by rfl) :
    Calls Tryz.prog 38 #[.agg #[.int .u8 ti, .slice a n c, .slice a' m c']] w fun e w' => ∃ x y, e = .returned (.tuple #[.slice x l.length y, .int .i64 0]) ∧ BIn w' x l.length y l ∧ Below w.heap.size w w' := by
  subst hn hm hti; exact enc_ok h hin
set_option maxRecDepth 100000 in
set_option maxHeartbeats 8000000 in
theorem Bytes_0 (w : World) (sn : Nat) (hsn : sn < 18446744073709551616) (is su : ByteArray) (ib sb : List Nat) (hib : strL is = ib) (hsb : strL su = sb) (his : is.size ≤ 140737488355328) (hsu : su.size ≤ 140737488355328) (hn1 : nameOk ib = true) (hn2 : nameOk sb = true) (ka : Option Addr) (kc : Nat) (kb : List Nat) (hk : BIn w ka 2017 kc kb) (xa : Option Addr) (xc : Nat) (sa : Option Addr) (sc : Nat) (sg : List Nat) (hs : BIn w sa 3373 sc sg) (l : List Nat) (hl : encE 48 [] (crtK sn ib sb kb sg .nil) = .ok l) : Calls Tryz.prog 14 #[certV sn is su ka 2017 kc xa 0 xc sa 3373 sc] w fun e w' => ∃ a c, e = .returned (.tuple #[.slice a l.length c, .int .i64 0]) ∧ BIn w' a l.length c l ∧ Below w.heap.size w w' := by
  have hmf : ∀ (fn : Fn) (first cap : Array Value) (w : World), (Instr.makeFunc fn first cap).run Tryz.prog w = .ok (.func fn first cap) w := fun _ _ _ _ => rfl
  have h00 : Below w.heap.size w (((w.alloc (.cells #[.int .u64 (sn : Nat), .string is, .string su, .slice ka 2017 kc, .slice xa 0 xc, .slice sa 3373 sc] 26)).alloc (.cells #[.slice none 0 0] 22)).alloc (.cells #[.int .i64 0] 27)) := (((Below.refl _ w).alloc (Nat.le_refl _) _).alloc (by simp) _).alloc (by simp; omega) _
  have HBX := Lib.hid (((Blk.new w 26 [.int .u64 (sn : Nat), .string is, .string su, .slice ka 2017 kc, .slice xa 0 xc, .slice sa 3373 sc]).alloc (.cells #[.slice none 0 0] 22)).alloc (.cells #[.int .i64 0] 27))
  have HP := Lib.hid ((Blk.new2 w (.cells #[.int .u64 (sn : Nat), .string is, .string su, .slice ka 2017 kc, .slice xa 0 xc, .slice sa 3373 sc] 26) 22 [.slice none 0 0]).alloc (.cells #[.int .i64 0] 27))
  have HQ := Lib.hid (Blk.new3 w (.cells #[.int .u64 (sn : Nat), .string is, .string su, .slice ka 2017 kc, .slice xa 0 xc, .slice sa 3373 sc] 26) (.cells #[.slice none 0 0] 22) 27 [.int .i64 0])
  have HS0 := Lib.hid (show w.heap.size + 3 ≤ (((w.alloc (.cells #[.int .u64 (sn : Nat), .string is, .string su, .slice ka 2017 kc, .slice xa 0 xc, .slice sa 3373 sc] 26)).alloc (.cells #[.slice none 0 0] 22)).alloc (.cells #[.int .i64 0] 27)).heap.size by simp)
  have H00 := Lib.hid h00
  have HK := Lib.hid (hk.below h00)
  have HG := Lib.hid (hs.below h00)
  have HN1 := Lib.hid hn1
  have HN2 := Lib.hid hn2
  have HI := Lib.hid hib
  have HSB := Lib.hid hsb
  have HIS := Lib.hid his
  have HSU := Lib.hid hsu
  have HSN := Lib.hid hsn
  have HL := Lib.hid hl
  clear h00 hk hib hsb his hsu hsn hn1 hn2 hl hs
  go_enter_defers Tryz.func14, Tryz.ntmps14
  generalize hW0 : ((w.alloc (.cells #[.int .u64 (sn : Nat), .string is, .string su, .slice ka 2017 kc, .slice xa 0 xc, .slice sa 3373 sc] 26)).alloc (.cells #[.slice none 0 0] 22)).alloc (.cells #[.int .i64 0] 27) = W0 at *
  go_wp2_with (first | (refine wpList_load_row (P := Tryz.prog) rfl 26 (.tmp 1) rfl w.heap.size rfl 26 _ _ _ HBX.out Tryz.underlying26 rfl info55 ?_) | (go_at_call 35; (with_reducible refine (lookAtSig_ok _ _ _ _ _ _ _ _ _ _ _ _).mono ?_); rintro e w2 ⟨rfl, hb2⟩; have hg2 : Gr W0 w2 := hb2; have HBX := Lib.hid (HBX.out.below' hg2); have HP := Lib.hid (HP.out.below' hg2); have HQ := Lib.hid (HQ.out.below' hg2); have H00 := Lib.hid (H00.out.trans (Below.mono hg2 H00.out.size)); have HK := Lib.hid (HK.out.below hg2); have HG := Lib.hid (HG.out.below hg2); have HS2 := Lib.hid (show w.heap.size + 3 ≤ w2.heap.size by { have h1 := hg2.size; have h2 := HS0.out; omega }); clear hb2 hg2) | (go_at_call 36; (with_reducible refine (lookAtSigned_0 sn is su ib sb HI.out HSB.out HN1.out HN2.out ka kc xa xc sa _ sc _).mono ?_); rintro e w3 ⟨rfl, hb3⟩; have hg3 : Gr w2 w3 := hb3; have HBX := Lib.hid (HBX.out.below' hg3); have HP := Lib.hid (HP.out.below' hg3); have HQ := Lib.hid (HQ.out.below' hg3); have H00 := Lib.hid (H00.out.trans (Below.mono hg3 H00.out.size)); have HK := Lib.hid (HK.out.below hg3); have HG := Lib.hid (HG.out.below hg3); have HS3 := Lib.hid (show w.heap.size + 3 ≤ w3.heap.size by { have h1 := hg3.size; have h2 := HS2.out; omega }); clear hb3 hg3) | (go_at_call 42; (with_reducible refine (ofCert_0 w3 sn HSN.out is su ib sb HI.out HSB.out HIS.out HSU.out ka 2017 kc kb HK.out (by decide) xa xc sa 3373 sc sg HG.out (by decide)).mono ?_); rintro e w4 ⟨a4, n4, c4, b4, m4, d4, hn4, hm4, rfl, hd4, hb4⟩; have HN4 := Lib.hid hn4; have HM4 := Lib.hid hm4; have HD4 := Lib.hid hd4; have hg4 : Gr w3 w4 := hb4; have HBX := Lib.hid (HBX.out.below' hg4); have HP := Lib.hid (HP.out.below' hg4); have HQ := Lib.hid (HQ.out.below' hg4); have H00 := Lib.hid (H00.out.trans (Below.mono hg4 H00.out.size)); have HK := Lib.hid (HK.out.below hg4); have HG := Lib.hid (HG.out.below hg4); have HS4 := Lib.hid (show w.heap.size + 3 ≤ w4.heap.size by { have h1 := hg4.size; have h2 := HS3.out; omega }); clear hn4 hm4 hd4 hb4 hg4) | (go_at_call 38; (with_reducible refine (enc_k HL.out HD4.out.now HN4.out HM4.out).mono ?_); rintro e w5 ⟨x5, y5, rfl, hl5, hb5⟩; have HL5 := Lib.hid hl5; have hg5 : Gr w4 w5 := hb5; have HBX := Lib.hid (HBX.out.below' hg5); have HP := Lib.hid (HP.out.below' hg5); have HQ := Lib.hid (HQ.out.below' hg5); have H00 := Lib.hid (H00.out.trans (Below.mono hg5 H00.out.size)); have HK := Lib.hid (HK.out.below hg5); have HG := Lib.hid (HG.out.below hg5); have HS5 := Lib.hid (show w.heap.size + 3 ≤ w5.heap.size by { have h1 := hg5.size; have h2 := HS4.out; omega }); have q1 := HP.out.cell 0; have q2 := HP.out.free 0; have HQ2 := HQ.out.other ⟨w.heap.size + 1, 0, none⟩ (.slice x5 l.length y5) (show w.heap.size + 1 + 1 ≠ w.heap.size + 1 by omega); have q3 := HQ2.cell 0; have q4 := HQ2.free 0; simp at q1 q3; clear HQ2 hl5 hb5 hg5) | (go_at_call 37; (with_reducible refine (passedB_ok (x5, l.length, y5) _).mono ?_); rintro e w6 ⟨rfl, rfl⟩))
  have hpp := (HP.out.set 0 (.slice x5 l.length y5)).other ⟨w.heap.size + 1 + 1, 0, none⟩ (.int .i64 0) (show w.heap.size + 1 ≠ w.heap.size + 1 + 1 by omega)
  have hq3 := HQ.out.other ⟨w.heap.size + 1, 0, none⟩ (.slice x5 l.length y5) (show w.heap.size + 1 + 1 ≠ w.heap.size + 1 by omega)
  have hqq := hq3.set 0 (.int .i64 0)
  have hin1 := (HL5.out.cell1 (u := .slice x5 l.length y5) HP.out (fun z h => by cases h)).cell1 (u := .int .i64 0) hq3 (fun z h => by cases h)
  have hs := HS5.out
  have hbel := ((H00.out.setCell (p := ⟨w.heap.size + 1, 0, none⟩) (by simp) (.slice x5 l.length y5)).setCell (p := ⟨w.heap.size + 1 + 1, 0, none⟩) (by simp; omega) (.int .i64 0))
  exact exitB_good (w.heap.size + 1) (w.heap.size + 1 + 1) x5 _ y5 0 _ hpp hqq rfl rfl ⟨x5, y5, rfl, hin1, hbel⟩
end Go.Proofs.YtbabpmncdphnjaaGreat
namespace Go.Proofs.YtbabpmncdphnjaaGreat
open Go.RowKit
set_option linter.unusedVariables false
set_option maxRecDepth 100000
set_option linter.unusedSimpArgs false
theorem bin_str {w : World} {a : Option Addr} {n c : Nat} {l : List Nat} (h : BIn w a n c l) : (convert 22 9 (.slice a n c)).run Tryz.prog w = .ok (.string (strV l)) w := by
  have hl : l.length = n := h.1.1
  rcases h.1.2.2.2 with h0 | ⟨b, o, rfl, hc⟩
  · subst h0
    obtain rfl : l = [] := List.eq_nil_of_length_eq_zero hl
    rcases a with _ | ⟨b, o, x⟩
    · rw [run_convert_bytes_nil w 22 5 Tryz.underlying22 Tryz.underlying5 0 c 9 Tryz.underlying9]; rfl
    · rw [run_convert_bytes_string w 22 9 5 _ 0 c Tryz.underlying22 Tryz.underlying5 Tryz.underlying9, run_bytesToString w _ 0 c [] (by rfl)]
      rfl
  · refine run_convert_bytes_arg (P := Tryz.prog) w 22 5 Tryz.underlying22 Tryz.underlying5 b o n c (l.map Nat.cast) (by simpa using hl) (fun i hi => ?_) 9 Tryz.underlying9
    rw [hc i hi]
    simp [List.getD_eq_getElem?_getD, List.getElem?_eq_getElem (show i < l.length by omega)]
theorem strV_inj {l m : List Nat} (h1 : ∀ x ∈ l, x < 256) (h2 : ∀ x ∈ m, x < 256) (h : strV l = strV m) : l = m := by
  rw [← strL_strV h1, ← strL_strV h2, h]
theorem str_ne {s s' : ByteArray} (h : s ≠ s') : (s.toList == s'.toList) = false := by
  have : s.toList ≠ s'.toList := fun e => h (ByteArray.ext (Array.ext' (by rw [← ByteArray.toList_eq, ← ByteArray.toList_eq]; exact e)))
  simpa using this
theorem str_eq (s : ByteArray) : (s.toList == s.toList) = true := by simp
theorem equalB_any (w : World) (a a' : Option Addr) (n c n' c' : Nat) (b b' : List Nat) (hb : BIn w a n c b) (hb' : BIn w a' n' c' b') : Calls Tryz.prog 110 #[.slice a n c, .slice a' n' c'] w fun e w' => e = .returned (.bool (decide (b = b'))) ∧ w = w' := by
  have h1 := bin_str hb
  have h2 := bin_str hb'
  by_cases hE : b = b'
  · subst hE
    generalize strV b = s at *
    have hq := str_eq s
    clear hb hb'
    go_enter Tryz.func110, Tryz.ntmps110
    go_wp2
    go_ret
    exact ⟨by first | rfl | (simp; done) | (simp; rfl), rfl⟩
  · have hne : strV b ≠ strV b' := fun e => hE (strV_inj hb.1.2.2.1 hb'.1.2.2.1 e)
    have HE := Lib.hid hE
    generalize strV b = s at *
    generalize strV b' = s' at *
    have hq := str_ne hne
    clear hb hb' hE hne
    go_enter Tryz.func110, Tryz.ntmps110
    go_wp2
    go_ret
    exact ⟨by rw [decide_eq_false HE.out]; rfl, rfl⟩
def SameC (N : Nat) : Prop := ∀ (k : Tr), k.sz < N → ∀ (w : World) (t t' : Nat) (b b' : List Nat) (k' : Tr) (a a1 a' a1' : Option Addr) (n m n' m' c c1 c' c1' : Nat), b.length = n → k.len = m → b'.length = n' → k'.len = m' → ItIn w t a c a1 c1 b k → ItIn w t' a' c' a1' c1' b' k' →
    Calls Tryz.prog 96 #[itV t a n c a1 m c1, itV t' a' n' c' a1' m' c1'] w fun e w' => e = .returned (.bool (eqI t t' b b' k k')) ∧ Below w.heap.size w w'
theorem KIn.at {w : World} {a : Option Addr} {c : Nat} {A r : Tr} {t : Nat} {b : List Nat} {k : Tr} (h : KIn w a c (A.app (.node t b k r))) : ∃ g o a1 c1 a2 c2, a = some ⟨g, o, none⟩ ∧ w.rangeAt g (o + A.len * 3) [.int .u8 (t : Nat), .slice a1 b.length c1, .slice a2 k.len c2] ∧ ItIn w t a1 c1 a2 c2 b k := by
  obtain ⟨g, o, rfl, hrow⟩ := h.2.resolve_left (by rw [Tr.len_app]; simp [Tr.len])
  have h2 := (Row.append hrow).2
  rw [show o + 3 * A.len = o + A.len * 3 by omega] at h2
  obtain ⟨a1, c1, a2, c2, hra, hit, _⟩ := h2.head
  exact ⟨g, o, a1, c1, a2, c2, rfl, hra, hit⟩
set_option maxRecDepth 100000 in
set_option maxHeartbeats 8000000 in
theorem equalK_step (N : Nat) (IH : SameC N) (k : Tr) (hsz : k.sz ≤ N) (w : World) (k' : Tr) (a a' : Option Addr) (n n' c c' : Nat) (hn : k.len = n) (hn' : k'.len = n') (hk : KIn w a c k) (hk' : KIn w a' c' k') :
    Calls Tryz.prog 111 #[.slice a n c, .slice a' n' c', .func (.func 96) #[] #[]] w fun e w' => e = .returned (.bool (decide (k = k'))) ∧ Below w.heap.size w w' := by
  have hm : n ≤ 140737488355328 := by rw [← hn]; exact hk.1.2.1
  by_cases hl : n = n'
  · subst hl
    have HK := Lib.hid hk
    have HK' := Lib.hid hk'
    have HNN := Lib.hid hn
    have HNN' := Lib.hid hn'
    have HIH := Lib.hid IH
    have HSZ := Lib.hid hsz
    clear hk hk' hn hn' IH hsz
    go_enter Tryz.func111, Tryz.ntmps111
    go_wp2
    go_loopw [17] (fun i wr => ∃ (A r r' : Tr) (j : Nat), k = A.app r ∧ k' = A.app r' ∧ A.len = j ∧ i = .int .i64 (j : Nat) ∧ Below w.heap.size w wr) (fun i _ => n - (intOf i).toNat)
    case atStart => exact ⟨.nil, k, k', 0, rfl, rfl, rfl, rfl, Below.refl _ _⟩
    case round =>
      obtain ⟨A, r, r', j, hA, hA', hj, rfl, hbel⟩ := hrel
      have hlen : j + r.len = n := by rw [← HNN.out, hA, Tr.len_app, hj]
      have hlen' : j + r'.len = n := by rw [← HNN'.out, hA', Tr.len_app, hj]
      have HA := Lib.hid hA
      have HA' := Lib.hid hA'
      have HJ := Lib.hid hj
      have HBE := Lib.hid hbel
      clear hA hA' hj hbel
      by_cases hjn : j < n
      · have hji : (j : Int) < (n : Int) := by omega
        obtain ⟨t3, b3, k3, r3, rfl⟩ := Tr.len_pos (T := r) (by omega)
        obtain ⟨t4, b4, k4, r4, rfl⟩ := Tr.len_pos (T := r') (by omega)
        have hka := HK.out.below HBE.out
        rw [HA.out] at hka
        have hkb := HK'.out.below HBE.out
        rw [HA'.out] at hkb
        obtain ⟨g1, o1, x1, y1, x2, y2, rfl, hr1, hi1⟩ := hka.at
        obtain ⟨g2, o2, x3, y3, x4, y4, rfl, hr2, hi2⟩ := hkb.at
        rw [HJ.out] at hr1 hr2
        have HR1 := Lib.hid hr1
        have HI1 := Lib.hid hi1
        have HI2 := Lib.hid hi2
        have HR2 := Lib.hid hr2
        have hsz3 : k3.sz < N := by have h1 := Tr.sz_app A (.node t3 b3 k3 r3); have h2 := HSZ.out; rw [← HA.out] at h1; simp only [Tr.sz] at h1; omega
        clear hka hkb hr1 hr2 hi1 hi2
        obtain ⟨n3, hn3⟩ : ∃ q, b3.length = q := ⟨_, rfl⟩
        obtain ⟨m3, hm3⟩ : ∃ q, k3.len = q := ⟨_, rfl⟩
        obtain ⟨n4, hn4⟩ : ∃ q, b4.length = q := ⟨_, rfl⟩
        obtain ⟨m4, hm4⟩ : ∃ q, k4.len = q := ⟨_, rfl⟩
        rw [hn3, hm3] at HR1
        rw [hn4, hm4] at HR2
        have D1 := Lib.hid (Blk.new wr 45 [.int .u8 0, .slice none 0 0, .slice none 0 0])
        have HC := Lib.hid (fun (W : World) (hW : Gr wr W) => HIH.out k3 hsz3 W t3 t4 b3 b4 k4 x1 x2 x3 x4 n3 m3 n4 m4 y1 y2 y3 y4 hn3 hm3 hn4 hm4 (HI1.out.below hW) (HI2.out.below hW))
        clear hn3 hm3 hn4 hm4
        by_cases hq : t3 = t4 ∧ b3 = b4 ∧ k3 = k4
        · have HC2 := Lib.hid (fun W hW => by have := HC.out W hW; rwa [eqI_true hq] at this : ∀ (W : World) (hW : Gr wr W), Calls Tryz.prog 96 #[itV t3 x1 n3 y1 x2 m3 y2, itV t4 x3 n4 y3 x4 m4 y4] W fun e w' => e = .returned (.bool true) ∧ Below W.heap.size W w')
          have HQ := Lib.hid hq
          clear hq
          go_wp2_with (first | (refine ldI rfl (.tmp 20) rfl g1 (o1 + j * 3) rfl _ _ _ HR1.out ?_) | (refine wpList_store_row (P := Tryz.prog) rfl 45 (.tmp 8) (.tmp 21) rfl wr.heap.size #[.int .u8 (t3 : Nat), .slice x1 n3 y1, .slice x2 m3 y2] rfl rfl 45 _ D1.out info25 rfl (all_item _ _ _ _ _ _ _) ?_; have hgA : Gr wr ((wr.alloc (.cells #[.int .u8 0, .slice none 0 0, .slice none 0 0] 45)).setRow wr.heap.size #[.int .u8 (t3 : Nat), .slice x1 n3 y1, .slice x2 m3 y2]) := below_setRow' (Gr.alloc wr _) (Nat.le_refl _) _; have HGA := Lib.hid hgA; have DA := Lib.hid (D1.out.setRow [.int .u8 (t3 : Nat), .slice x1 n3 y1, .slice x2 m3 y2]); have hr2 := rangeAt_below HR2.out hgA; have HR2 := Lib.hid hr2; clear hgA hr2; generalize (wr.alloc (.cells #[.int .u8 0, .slice none 0 0, .slice none 0 0] 45)).setRow wr.heap.size #[.int .u8 (t3 : Nat), .slice x1 n3 y1, .slice x2 m3 y2] = WA at *; have D2 := Lib.hid (Blk.new WA 45 [.int .u8 0, .slice none 0 0, .slice none 0 0])) | (refine ldI rfl (.tmp 24) rfl g2 (o2 + j * 3) rfl _ _ _ HR2.out ?_) | (refine wpList_store_row (P := Tryz.prog) rfl 45 (.tmp 9) (.tmp 25) rfl WA.heap.size #[.int .u8 (t4 : Nat), .slice x3 n4 y3, .slice x4 m4 y4] rfl rfl 45 _ D2.out info25 rfl (all_item _ _ _ _ _ _ _) ?_; have hgB : Gr WA ((WA.alloc (.cells #[.int .u8 0, .slice none 0 0, .slice none 0 0] 45)).setRow WA.heap.size #[.int .u8 (t4 : Nat), .slice x3 n4 y3, .slice x4 m4 y4]) := below_setRow' (Gr.alloc WA _) (Nat.le_refl _) _; have HGB := Lib.hid (HGA.out.trans hgB); have DB := Lib.hid (D2.out.setRow [.int .u8 (t4 : Nat), .slice x3 n4 y3, .slice x4 m4 y4]); have DA := Lib.hid (DA.out.below' hgB); clear hgB; generalize (WA.alloc (.cells #[.int .u8 0, .slice none 0 0, .slice none 0 0] 45)).setRow WA.heap.size #[.int .u8 (t4 : Nat), .slice x3 n4 y3, .slice x4 m4 y4] = WB at *) | (refine wpList_load_row (P := Tryz.prog) rfl 45 (.tmp 8) rfl wr.heap.size rfl 45 _ _ _ DA.out Tryz.underlying45 rfl info25 ?_) | (refine wpList_load_row (P := Tryz.prog) rfl 45 (.tmp 9) rfl WA.heap.size rfl 45 _ _ _ DB.out Tryz.underlying45 rfl info25 ?_) | (go_at_call 96; ((with_reducible refine (HC2.out _ HGB.out).mono ?_); rintro e wz ⟨rfl, hbz⟩; have HBZ := Lib.hid (HBE.out.trans ((HGB.out.trans hbz).mono HBE.out.size)); clear hbz)))
          go_roundw
          case rel =>
            obtain ⟨rfl, rfl, rfl⟩ := HQ.out
            exact ⟨A.app (.node t3 b3 k3 .nil), r3, r4, j + 1, by rw [HA.out, Tr.app_assoc]; rfl, by rw [HA'.out, Tr.app_assoc]; rfl, by rw [Tr.len_app, HJ.out]; rfl, by go_num, HBZ.out⟩
          case measure => simp [intOf]; omega
        · have HC2 := Lib.hid (fun W hW => by have := HC.out W hW; rwa [eqI_false hq] at this : ∀ (W : World) (hW : Gr wr W), Calls Tryz.prog 96 #[itV t3 x1 n3 y1 x2 m3 y2, itV t4 x3 n4 y3 x4 m4 y4] W fun e w' => e = .returned (.bool false) ∧ Below W.heap.size W w')
          have HQ := Lib.hid hq
          clear hq
          go_wp2_with (first | (refine ldI rfl (.tmp 20) rfl g1 (o1 + j * 3) rfl _ _ _ HR1.out ?_) | (refine wpList_store_row (P := Tryz.prog) rfl 45 (.tmp 8) (.tmp 21) rfl wr.heap.size #[.int .u8 (t3 : Nat), .slice x1 n3 y1, .slice x2 m3 y2] rfl rfl 45 _ D1.out info25 rfl (all_item _ _ _ _ _ _ _) ?_; have hgA : Gr wr ((wr.alloc (.cells #[.int .u8 0, .slice none 0 0, .slice none 0 0] 45)).setRow wr.heap.size #[.int .u8 (t3 : Nat), .slice x1 n3 y1, .slice x2 m3 y2]) := below_setRow' (Gr.alloc wr _) (Nat.le_refl _) _; have HGA := Lib.hid hgA; have DA := Lib.hid (D1.out.setRow [.int .u8 (t3 : Nat), .slice x1 n3 y1, .slice x2 m3 y2]); have hr2 := rangeAt_below HR2.out hgA; have HR2 := Lib.hid hr2; clear hgA hr2; generalize (wr.alloc (.cells #[.int .u8 0, .slice none 0 0, .slice none 0 0] 45)).setRow wr.heap.size #[.int .u8 (t3 : Nat), .slice x1 n3 y1, .slice x2 m3 y2] = WA at *; have D2 := Lib.hid (Blk.new WA 45 [.int .u8 0, .slice none 0 0, .slice none 0 0])) | (refine ldI rfl (.tmp 24) rfl g2 (o2 + j * 3) rfl _ _ _ HR2.out ?_) | (refine wpList_store_row (P := Tryz.prog) rfl 45 (.tmp 9) (.tmp 25) rfl WA.heap.size #[.int .u8 (t4 : Nat), .slice x3 n4 y3, .slice x4 m4 y4] rfl rfl 45 _ D2.out info25 rfl (all_item _ _ _ _ _ _ _) ?_; have hgB : Gr WA ((WA.alloc (.cells #[.int .u8 0, .slice none 0 0, .slice none 0 0] 45)).setRow WA.heap.size #[.int .u8 (t4 : Nat), .slice x3 n4 y3, .slice x4 m4 y4]) := below_setRow' (Gr.alloc WA _) (Nat.le_refl _) _; have HGB := Lib.hid (HGA.out.trans hgB); have DB := Lib.hid (D2.out.setRow [.int .u8 (t4 : Nat), .slice x3 n4 y3, .slice x4 m4 y4]); have DA := Lib.hid (DA.out.below' hgB); clear hgB; generalize (WA.alloc (.cells #[.int .u8 0, .slice none 0 0, .slice none 0 0] 45)).setRow WA.heap.size #[.int .u8 (t4 : Nat), .slice x3 n4 y3, .slice x4 m4 y4] = WB at *) | (refine wpList_load_row (P := Tryz.prog) rfl 45 (.tmp 8) rfl wr.heap.size rfl 45 _ _ _ DA.out Tryz.underlying45 rfl info25 ?_) | (refine wpList_load_row (P := Tryz.prog) rfl 45 (.tmp 9) rfl WA.heap.size rfl 45 _ _ _ DB.out Tryz.underlying45 rfl info25 ?_) | (go_at_call 96; ((with_reducible refine (HC2.out _ HGB.out).mono ?_); rintro e wz ⟨rfl, hbz⟩; have HBZ := Lib.hid (HBE.out.trans ((HGB.out.trans hbz).mono HBE.out.size)); clear hbz)))
          go_ret
          exact ⟨by rw [decide_eq_false (fun e => HQ.out (app_heads (by rw [← HA.out, e, HA'.out])))]; rfl, HBZ.out⟩
      · have hji : ¬ (j : Int) < (n : Int) := by omega
        have h0 := Tr.len_zero (T := r) (by omega)
        have h1 := Tr.len_zero (T := r') (by omega)
        have HY := Lib.hid (show k = k' by rw [HA.out, HA'.out, h0, h1])
        clear h0 h1
        go_wp2_with fail
        go_ret
        exact ⟨by rw [decide_eq_true HY.out]; rfl, HBE.out⟩
  · have hne : ((n : Int) != (n' : Int)) = true := int_ne hl
    have HX := Lib.hid (show k ≠ k' from fun e => hl (by rw [← hn, ← hn', e]))
    clear hk hk' hn hn' IH hsz
    go_enter Tryz.func111, Tryz.ntmps111
    go_wp2
    go_ret
    exact ⟨by rw [decide_eq_false HX.out]; rfl, Below.refl _ _⟩
set_option maxRecDepth 100000 in
set_option maxHeartbeats 8000000 in
theorem same_step (N : Nat) (IH : SameC N) : SameC (N + 1) := by
  intro k hsz w t t' b b' k' a a1 a' a1' n m n' m' c c1 c' c1' hn hm hn' hm' hi hi'
  have h00 := ((Below.refl _ w).alloc (Nat.le_refl _) (.cells #[.int .u8 (t : Nat), .slice a n c, .slice a1 m c1] 45)).alloc (by simp) (.cells #[.int .u8 (t' : Nat), .slice a' n' c', .slice a1' m' c1'] 45)
  have H1 := Lib.hid ((Blk.new w 45 [.int .u8 (t : Nat), .slice a n c, .slice a1 m c1]).alloc (.cells #[.int .u8 (t' : Nat), .slice a' n' c', .slice a1' m' c1'] 45))
  have H2 := Lib.hid (Blk.new2 w (.cells #[.int .u8 (t : Nat), .slice a n c, .slice a1 m c1] 45) 45 [.int .u8 (t' : Nat), .slice a' n' c', .slice a1' m' c1'])
  have H00 := Lib.hid h00
  have HI := Lib.hid (hi.below h00)
  have HI' := Lib.hid (hi'.below h00)
  have HIH := Lib.hid IH
  have HSZ := Lib.hid hsz
  have HM := Lib.hid hm
  have HM' := Lib.hid hm'
  have HN := Lib.hid hn
  have HN' := Lib.hid hn'
  clear h00 hi hi' IH hsz hn hm hn' hm'
  have HE := Lib.hid (fun W (hW : Gr (((w.alloc (.cells #[.int .u8 (t : Nat), .slice a n c, .slice a1 m c1] 45)).alloc (.cells #[.int .u8 (t' : Nat), .slice a' n' c', .slice a1' m' c1'] 45))) W) => equalB_any W a a' n c n' c' b b' (by have := (HI.out.below hW).2.1; rwa [HN.out] at this) (by have := (HI'.out.below hW).2.1; rwa [HN'.out] at this))
  have HF := Lib.hid (fun W (hW : Gr (((w.alloc (.cells #[.int .u8 (t : Nat), .slice a n c, .slice a1 m c1] 45)).alloc (.cells #[.int .u8 (t' : Nat), .slice a' n' c', .slice a1' m' c1'] 45))) W) => equalK_step N HIH.out k (by have := HSZ.out; omega) W k' a1 a1' m m' c1 c1' HM.out HM'.out (HI.out.below hW).2.2 (HI'.out.below hW).2.2)
  by_cases ht : t = t'
  · subst ht
    by_cases hb : b = b'
    · have HE2 := Lib.hid (fun W hW => by have := HE.out W hW; rwa [decide_eq_true hb] at this : ∀ W (hW : Gr (((w.alloc (.cells #[.int .u8 (t : Nat), .slice a n c, .slice a1 m c1] 45)).alloc (.cells #[.int .u8 (t : Nat), .slice a' n' c', .slice a1' m' c1'] 45))) W), Calls Tryz.prog 110 #[.slice a n c, .slice a' n' c'] W fun e w' => e = .returned (.bool true) ∧ W = w')
      have HX := Lib.hid (show eqI t t b b' k k' = decide (k = k') by unfold eqI; simp [hb])
      clear HE hb
      go_enter Tryz.func96, Tryz.ntmps96
      generalize hW0 : (w.alloc (.cells #[.int .u8 (t : Nat), .slice a n c, .slice a1 m c1] 45)).alloc (.cells #[.int .u8 (t : Nat), .slice a' n' c', .slice a1' m' c1'] 45) = W0 at *
      have k0 := blkc H1.out (i := 0) rfl
      have k1 := blkc H1.out (i := 1) rfl
      have k2 := blkc H1.out (i := 2) rfl
      have q0 := blkc H2.out (i := 0) rfl
      have q1 := blkc H2.out (i := 1) rfl
      have q2 := blkc H2.out (i := 2) rfl
      generalize hB : decide (k = k') = B at *
      have HB := Lib.hid hB
      clear hB
      go_wp2_with (first | (go_at_call 110; (with_reducible refine (HE2.out _ (Gr.refl _)).mono ?_); rintro e w2 ⟨rfl, rfl⟩) | (go_at_call 111; (with_reducible refine (HF.out _ (Gr.refl _)).mono ?_); rintro e w3 ⟨rfl, hb3⟩; have H03 := Lib.hid (Below.trans H00.out (Below.mono hb3 (Below.size H00.out))); clear hb3))
      go_ret
      exact ⟨retB HX.out, H03.out⟩
    · have HE2 := Lib.hid (fun W hW => by have := HE.out W hW; rwa [decide_eq_false hb] at this : ∀ W (hW : Gr (((w.alloc (.cells #[.int .u8 (t : Nat), .slice a n c, .slice a1 m c1] 45)).alloc (.cells #[.int .u8 (t : Nat), .slice a' n' c', .slice a1' m' c1'] 45))) W), Calls Tryz.prog 110 #[.slice a n c, .slice a' n' c'] W fun e w' => e = .returned (.bool false) ∧ W = w')
      have HX := Lib.hid (eqI_false (t := t) (t' := t) (k := k) (k' := k') (fun h => hb h.2.1))
      clear HE hb HF
      go_enter Tryz.func96, Tryz.ntmps96
      generalize hW0 : (w.alloc (.cells #[.int .u8 (t : Nat), .slice a n c, .slice a1 m c1] 45)).alloc (.cells #[.int .u8 (t : Nat), .slice a' n' c', .slice a1' m' c1'] 45) = W0 at *
      have k0 := blkc H1.out (i := 0) rfl
      have k1 := blkc H1.out (i := 1) rfl
      have q0 := blkc H2.out (i := 0) rfl
      have q1 := blkc H2.out (i := 1) rfl
      go_wp2_with (first | (go_at_call 110; (with_reducible refine (HE2.out _ (Gr.refl _)).mono ?_); rintro e w2 ⟨rfl, rfl⟩))
      go_ret
      exact ⟨retB HX.out, H00.out⟩
  · have HX := Lib.hid (eqI_false (b := b) (b' := b') (k := k) (k' := k') (fun h => ht h.1))
    have hti : ((t : Int) == (t' : Int)) = false := by simp; omega
    have hti2 : ¬ (t : Int) = (t' : Int) := by omega
    clear ht HE HF
    go_enter Tryz.func96, Tryz.ntmps96
    generalize hW0 : (w.alloc (.cells #[.int .u8 (t : Nat), .slice a n c, .slice a1 m c1] 45)).alloc (.cells #[.int .u8 (t' : Nat), .slice a' n' c', .slice a1' m' c1'] 45) = W0 at *
    have k0 := blkc H1.out (i := 0) rfl
    have q0 := blkc H2.out (i := 0) rfl
    go_wp2
    go_ret
    exact ⟨retB HX.out, H00.out⟩
theorem same_all : ∀ N, SameC N := by
  intro N
  induction N with
  | zero => intro k h; omega
  | succ N ih => exact same_step N ih
theorem same_any (w : World) (t t' : Nat) (b b' : List Nat) (k k' : Tr) (a a1 a' a1' : Option Addr) (n m n' m' c c1 c' c1' : Nat) (hn : b.length = n) (hm : k.len = m) (hn' : b'.length = n') (hm' : k'.len = m') (hi : ItIn w t a c a1 c1 b k) (hi' : ItIn w t' a' c' a1' c1' b' k') :
    Calls Tryz.prog 96 #[itV t a n c a1 m c1, itV t' a' n' c' a1' m' c1'] w fun e w' => e = .returned (.bool (eqI t t' b b' k k')) ∧ Below w.heap.size w w' :=
  same_all (k.sz + 1) k (Nat.lt_succ_self _) w t t' b b' k' a a1 a' a1' n m n' m' c c1 c' c1' hn hm hn' hm' hi hi'
end Go.Proofs.YtbabpmncdphnjaaGreat
