/- The document's New. Condition: the list of blocks is in reach. -/
import Derived.Test.YtlgpaglkhgomiaaGa
import Derived.Test.YtlgpaglkhgomiaaNb
namespace Go.Proofs.Ytlgpaglkhgomiaa
open Go.RowKit
set_option linter.unusedVariables false
set_option maxRecDepth 100000
set_option linter.unusedSimpArgs false
/-- what the document's New answers -/
def RNewB (N : Int) (bs : List BlkR) (w : World) (e : Ending) (w' : World) : Prop :=
  Below w.heap.size w w' ∧
  ((newR N bs (fun _ => false) (fun _ => zB)).1 ≠ 0 → e = .returned (.tuple #[.pointer none, .int .i64 (newR N bs (fun _ => false) (fun _ => zB)).1])) ∧
  ((newR N bs (fun _ => false) (fun _ => zB)).1 = 0 → ∃ r bs', w.heap.size ≤ r ∧ e = .returned (.tuple #[.pointer (some ⟨r, 0, none⟩), .int .i64 0]) ∧ RfAt w' w.heap.size r N false 0 false 0 bs' ∧ bs'.map BlkR.key = bs.map BlkR.key)
theorem rnewB_no {N : Int} {bs : List BlkR} {w w' : World} {e : Ending} (hb : Below w.heap.size w w') (E : Int) {hs : Int → Bool} {c : Int → List Nat} (hE : newR N bs (fun _ => false) (fun _ => zB) = (E, hs, c)) (h0 : E ≠ 0) (he : e = .returned (.tuple #[.pointer none, .int .i64 E])) : RNewB N bs w e w' := by
  unfold RNewB
  rw [hE]
  exact ⟨hb, fun _ => he, fun h => absurd h h0⟩
set_option maxHeartbeats 400000 in
theorem rnew_out (N : Int) (v : Value) (w : World) (h : N < 1 ∨ 1048576 < N) :
    Calls Try.prog 9 #[.int .i64 N, v] w fun e w' => e = .returned (.tuple #[.pointer none, .int .i64 1]) ∧ w = w' := by
  by_cases q : N < 1
  · clear h
    go_enter Try.func9, Try.ntmps9
    go_wp2
    go_ret2
    exact ⟨rfl, rfl⟩
  · have q2 : 1048576 < N := by omega
    clear h
    go_enter Try.func9, Try.ntmps9
    go_wp2
    go_ret2
    exact ⟨rfl, rfl⟩
theorem own_cin1 {w : World} {g : Nat} {y : BlkR} (h : Blk w g 62 y.cs) : CIn w (some ⟨g, 0, none⟩) 1 [y] := by
  refine ⟨rfl, .inr ⟨g, 0, rfl, fun i x hx j u hu => ?_⟩⟩
  cases i with
  | zero =>
    simp at hx
    subst hx
    rw [h.cell]
    simpa using hu
  | succ i => simp at hx
theorem rnew_fin {wr W3 W5 W6 W7 W8 : World} {r base B gD cD cI : Nat} {aI : Option Addr} {vO : Value} {N : Int} {bsI : List BlkR} {x y : BlkR}
    (hRF : RfAt wr base r N false 0 false 0 bsI) (hLO : LOwn wr base (.slice aI bsI.length cI) bsI) (h05 : Gr wr W5) (h35 : Gr W3 W5) (hoD : W3.ownsRow B 5 1 (.slice (some ⟨gD, 0, none⟩) 512 cD) 512 (bytesV x.l)) (hB : base ≤ B) (hlt : ∀ z ∈ x.l, z < 256)
    (hgO : W5.grownBy W6 (Value.slice aI bsI.length cI).ownBlock) (hoO : W6.ownsRow base 62 2 vO (bsI ++ [y]).length (rowC (bsI ++ [y]))) (hy : y = ⟨x.N, some ⟨gD, 0, none⟩, 512, cD, x.l⟩) (h67 : Gr W6 W7)
    (hr7 : Blk W7 r 46 [.int .i64 N, .slice aI bsI.length cI, .bool false, .int .i64 0, .bool false, .int .i64 0]) (h78 : Gr (W7.setCell ⟨r, 1, none⟩ vO) W8) (hxN : 0 ≤ x.N ∧ x.N < N) (hN : N ≤ 1048576) (hnew : ∀ z ∈ bsI, z.N ≠ x.N) : RfAt W8 base r N false 0 false 0 (bsI ++ [y]) := by
  have hf6 : Fr W5 W6 (fun j => (Value.slice aI bsI.length cI).ownBlock = some j) := Fr.grown hgO (fun j e _ => e)
  have hg7 : W7.grownBy (W7.setCell ⟨r, 1, none⟩ vO) (some r) := grown_setCell W7 ⟨r, 1, none⟩ vO
  have hf7 : Fr W7 (W7.setCell ⟨r, 1, none⟩ vO) (fun j => j = r) := Fr.grown hg7 (fun j e _ => by injection e with e; exact e.symm)
  have hD : ∀ z : BlkR, DOwn W5 base z → DOwn W8 base z := fun z hz => by
    have a6 : DOwn W6 base z := hz.fr hf6 (fun j hj e => by
      obtain ⟨c1, hc1, _⟩ := own_blk hz.1 hj
      obtain ⟨c2, hc2, _⟩ := own_blk (own_below hLO.1 h05) e
      exact blk_ne hc1 hc2 (by decide) rfl)
    have a7 := a6.below h67
    have a8 : DOwn (W7.setCell ⟨r, 1, none⟩ vO) base z := a7.fr hf7 (fun j hj e => by
      obtain ⟨c1, hc1, _⟩ := own_blk a7.1 hj
      exact blk_ne hc1 hr7 (by decide) e)
    exact a8.below h78
  have hO7 := own_below hoO h67
  have hO8 := own_fr hO7 hf7 (fun j hj e => by
      obtain ⟨c1, hc1, _⟩ := own_blk hO7 hj
      exact blk_ne hc1 hr7 (by decide) e)
  have hO9 := own_below hO8 h78
  obtain ⟨a9, c9, rfl⟩ : ∃ a9 c9, vO = .slice a9 (bsI ++ [y]).length c9 := by
    rcases hoO.2 with ⟨rfl, h0⟩ | ⟨g, cap, cur, rfl, _⟩
    · exact ⟨none, 0, by rw [h0]⟩
    · exact ⟨_, _, rfl⟩
  have hb9 := (hr7.set 1 (.slice a9 (bsI ++ [y]).length c9)).gr h78
  refine ⟨⟨a9, c9, hb9, hO9, fun z hz => ?_⟩, fun z hz => ?_, ?_⟩
  · rcases List.mem_append.1 hz with hz | hz
    · exact ⟨hD z ((hLO.2 z hz).1.below h05), (hLO.2 z hz).2⟩
    · obtain rfl := List.mem_singleton.1 hz
      subst hy
      refine ⟨hD _ ⟨own_low (own_below hoD h35) hB, hlt, by show 512 ≤ _; omega⟩, ?_⟩
      show I64 x.N
      exact ⟨by omega, by omega⟩
  · rcases List.mem_append.1 hz with hz | hz
    · exact hRF.2.1 z hz
    · obtain rfl := List.mem_singleton.1 hz
      subst hy
      exact ⟨rfl, hxN⟩
  · rw [List.pairwise_append]
    refine ⟨hRF.2.2, List.pairwise_singleton _ _, fun z hz u hu => ?_⟩
    obtain rfl := List.mem_singleton.1 hu
    subst hy
    exact hnew z hz
theorem Gr.trans2 {a b c : World} {B : Nat} (h : Below B a b) (k : Below B b c) : Below B a c := h.trans k
theorem newR_end {N : Int} {bs : List BlkR} {k : Nat} {hs : Int → Bool} {c : Int → List Nat} (h : newR N (bs.drop k) hs c = newR N bs (fun _ => false) (fun _ => zB)) (hk : bs.length ≤ k) : newR N bs (fun _ => false) (fun _ => zB) = (0, hs, c) := by
  rw [List.drop_of_length_le hk] at h
  exact h.symm.trans rfl
set_option maxHeartbeats 6400000 in
theorem rnew_any (N : Int) (A : Option Addr) (k cp : Nat) (bs : List BlkR) (w : World) (hN0 : 1 ≤ N) (hN1 : N ≤ 1048576) (hin : LIn w A k bs) (hk : k ≤ 70368744177664) :
    Calls Try.prog 9 #[.int .i64 N, .slice A k cp] w (RNewB N bs w) := by
  have HIN := Lib.hid hin
  have HR0 := Lib.hid (Blk.new w 46 [.int .i64 N, .slice none 0 0, .bool false, .int .i64 0, .bool false, .int .i64 0])
  have HB0 := Lib.hid ((Below.refl w.heap.size w).alloc (Nat.le_refl _) (.cells #[.int .i64 N, .slice none 0 0, .bool false, .int .i64 0, .bool false, .int .i64 0] 46))
  clear hin
  go_enter Try.func9, Try.ntmps9
  go_wp2
  go_loopw [7] (fun v7 wr => ∃ (i : Nat) (hs : Int → Bool) (c : Int → List Nat) (bsI : List BlkR), v7 = .int .i64 i ∧ i ≤ k ∧ newR N (bs.drop i) hs c = newR N bs (fun _ => false) (fun _ => zB) ∧ (∀ y, hs y = true ↔ ∃ x ∈ bs.take i, x.N = y) ∧ RfAt wr w.heap.size w.heap.size N false 0 false 0 bsI ∧ bsI.map BlkR.key = (bs.take i).map BlkR.key ∧ Below w.heap.size w wr) (fun v7 _ => k - (intOf v7).toNat)
  case atStart => exact ⟨0, _, _, [], rfl, Nat.zero_le _, rfl, fun y => by simp, ⟨⟨none, 0, HR0.out, ⟨rfl, .inl ⟨rfl, rfl⟩⟩, fun x hx => (by cases hx)⟩, fun x hx => (by cases hx), List.Pairwise.nil⟩, rfl, HB0.out⟩
  case round =>
    obtain ⟨i, hs, c, bsI, rfl, hi, hnr, hhs, hrf, hkey, hbel⟩ := hrel
    have HNR := Lib.hid hnr
    have HHS := Lib.hid hhs
    have HRF := Lib.hid hrf
    have HKEY := Lib.hid hkey
    have HBL := Lib.hid hbel
    clear hnr hhs hrf hkey hbel HR0 HB0
    by_cases hik : i < k
    · obtain ⟨b, off, rfl, hcell⟩ := HIN.out.2.2.resolve_left (by omega)
      obtain ⟨x, hx⟩ : ∃ x, bs[i]? = some x := ⟨_, List.getElem?_eq_getElem (by rw [HIN.out.1]; exact hik)⟩
      have hdrop : bs.drop i = x :: bs.drop (i + 1) := by
        have h1 := (List.getElem?_eq_some_iff.1 hx)
        rw [List.drop_eq_getElem_cons h1.1, h1.2]
      rw [hdrop] at HNR
      have HK := Lib.hid (show ∀ w_, Below w.heap.size w w_ → w_.cell? ⟨b, off + i * 2, none⟩ = some (.int .i64 x.N) ∧ w_.cell? ⟨b, off + i * 2 + 1, none⟩ = some (.slice x.a x.n x.c) from fun w_ hb_ => ⟨range_cell (range_gr (hcell i x hx) hb_) (j := 0) rfl, range_cell (range_gr (hcell i x hx) hb_) (j := 1) rfl⟩)
      have HC := Lib.hid hcell
      have hxx := HIN.out.2.1 x (List.mem_of_getElem? hx)
      have HBN := Lib.hid hxx.1
      have hxN := hxx.2
      have hik' : (i : Int) < (k : Int) := by omega
      have HX := Lib.hid hx
      have k0 := (HK.out wr HBL.out).1
      have k1 := (HK.out wr HBL.out).2
      clear hcell hx hdrop hxx
      by_cases hr : 0 ≤ x.N ∧ x.N < N
      · have q1 : ¬ x.N < 0 := by omega
        have q2 : ¬ N ≤ x.N := by omega
        obtain ⟨w1, rfl⟩ : ∃ w1, w1 = wr := ⟨_, rfl⟩
        go_wp2_with fail
        go_loopw [8] (fun v8 w9 => ∃ j : Nat, v8 = .int .i64 j ∧ j ≤ i ∧ (∀ m y, m < j → bs[m]? = some y → y.N ≠ x.N) ∧ Below w1.heap.size w1 w9) (fun v8 _ => i - (intOf v8).toNat)
        case atStart => exact ⟨0, rfl, Nat.zero_le _, fun m y hm => absurd hm (Nat.not_lt_zero m), Below.refl _ _⟩
        case round =>
          obtain ⟨j, rfl, hj, hno, hb9⟩ := hrel
          have HNO := Lib.hid hno
          have HB9 := Lib.hid (HBL.out.trans (hb9.mono HBL.out.size))
          have HB19 := Lib.hid hb9
          have e0 := (HK.out wr HB9.out).1
          have e1 := (HK.out wr HB9.out).2
          clear hno hb9 k0 k1
          by_cases hji : j < i
          · have hji' : (j : Int) < (i : Int) := by omega
            have hjk : (j : Int) < (k : Int) := by omega
            obtain ⟨y, hy⟩ : ∃ y, bs[j]? = some y := ⟨_, List.getElem?_eq_getElem (by rw [HIN.out.1]; omega)⟩
            have m0 : wr.cell? ⟨b, off + j * 2, none⟩ = some (.int .i64 y.N) := range_cell (range_gr (HC.out j y hy) HB9.out) (j := 0) rfl
            have HY := Lib.hid hy
            clear hy
            by_cases hyx : y.N = x.N
            · have HR := Lib.hid (newR_bad (N := N) (r := bs.drop (i + 1)) (c := c) (hs := hs) (.inl ((HHS.out x.N).2 ⟨y, by
                obtain ⟨h1, h2⟩ := List.getElem?_eq_some_iff.1 HY.out
                exact List.mem_take_iff_getElem.2 ⟨j, by omega, h2⟩, hyx⟩)))
              rw [HNR.out] at HR
              have t0 : (y.N == x.N) = true := by simp [hyx]
              clear hyx
              go_wp2_with fail
              go_quiet (fail)
              have hbq := below_drewN HB9.out nq
              have HBQ := Lib.hid hbq
              clear hbq
              go_wp2_with fail
              go_ret2
              exact rnewB_no HBQ.out 141 HR.out (by omega) rfl
            · have t0 : (y.N == x.N) = false := by simp [hyx]
              have HYX := Lib.hid hyx
              clear hyx
              go_wp2_with fail
              go_quiet (fail)
              have HBQ := Lib.hid (below_drewN HB19.out nq)
              go_wp2_with fail
              go_roundw
              case rel => exact ⟨j + 1, by go_num, by omega, fun m z hm hz => by
                by_cases e : m = j
                · subst e; rw [HY.out] at hz; injection hz with hz; exact hz ▸ HYX.out
                · exact HNO.out m z (by omega) hz, HBQ.out⟩
              case measure => simp [intOf]; omega
          · obtain rfl : j = i := by omega
            have hhf : ¬ hs x.N = true := fun h => by
              obtain ⟨z, hz, he⟩ := (HHS.out x.N).1 h
              obtain ⟨m, hm, e⟩ := List.mem_take_iff_getElem.1 hz
              exact HNO.out m z (by omega) (by rw [List.getElem?_eq_getElem (by omega), e]) he
            have hgo : ¬ (hs x.N = true ∨ ¬ (0 ≤ x.N ∧ x.N < N)) := fun h => h.elim hhf (fun h => h hr)
            by_cases hn : x.n ≠ 512
            · have HR := Lib.hid (newR_short (r := bs.drop (j + 1)) (c := c) hgo hn)
              rw [HNR.out] at HR
              have t1 : ((x.n : Int) != 512) = true := by simp; omega
              clear hgo hn hhf
              go_wp2_with fail
              go_ret2
              exact rnewB_no HB9.out 142 HR.out (by omega) rfl
            · have HR := Lib.hid (newR_go (r := bs.drop (j + 1)) (c := c) hgo hn)
              rw [HNR.out] at HR
              obtain hn5 : x.n = 512 := by omega
              have HBX := Lib.hid (show BIn w x.a 512 x.c x.l from hn5 ▸ HBN.out)
              have HNEW := Lib.hid (show ∀ z ∈ bsI, z.N ≠ x.N from fun z hz he => hhf ((HHS.out x.N).2 (by
                have h1 : z.key ∈ bsI.map BlkR.key := List.mem_map_of_mem hz
                rw [HKEY.out] at h1
                obtain ⟨u, hu, hk2⟩ := List.mem_map.1 h1
                exact ⟨u, hu, by injection hk2 with h2 _; rw [h2, he]⟩)))
              rw [hn5] at HK e1
              have t1 : (((512 : Nat) : Int) != 512) = false := by simp
              clear hgo hn hhf
              have hrf2 := HRF.out.below HB19.out
              have hfew := few (fun x hx => (hrf2.2.1 x hx).2) hrf2.2.2 hN1
              obtain ⟨aI, cI, hbk, hlo⟩ := hrf2.1
              have HBK := Lib.hid hbk
              have HLO := Lib.hid hlo
              have HRF2 := Lib.hid hrf2
              clear hrf2 hbk hlo
              go_upto_region 16 with (fail)
              refine wp_region_G (fun w_ => Below w.heap.size w w_ ∧ Blk w_ w.heap.size 46 [.int .i64 N, .slice aI bsI.length cI, .bool false, .int .i64 0, .bool false, .int .i64 0]) 22 (by kernel_rfl) ⟨gr_bel HB9.out (Gr.drew wr), HBK.out.drew⟩ ?_
              refine wpAnyG_take (oi := _) (v := _) (fun _ _ hS_ hb_ => ⟨gr_bel hS_.1 hb_, hS_.2.gr hb_⟩) (i := 0) rfl (by kernel_rfl) (fun _ _ _ h => h) (pureG (by rfl) (by intro w; go_simp; first | done | with_reducible rfl)) ?_
              try simp only [Act.put, List.getElem_toArray, List.getElem_cons_succ, List.getElem_cons_zero, List.setIfInBounds_toArray, List.set_cons_zero, List.set_cons_succ]
              refine wpAnyG_take (oi := _) (v := _) (fun _ _ hS_ hb_ => ⟨gr_bel hS_.1 hb_, hS_.2.gr hb_⟩) (i := 1) rfl (by kernel_rfl) (fun _ _ _ h => h) (pureG (by rfl) (by intro w; go_simp; first | done | with_reducible rfl)) ?_
              try simp only [Act.put, List.getElem_toArray, List.getElem_cons_succ, List.getElem_cons_zero, List.setIfInBounds_toArray, List.set_cons_zero, List.set_cons_succ]
              refine wpAnyG_take (oi := _) (v := _) (fun _ _ hS_ hb_ => ⟨gr_bel hS_.1 hb_, hS_.2.gr hb_⟩) (i := 2) rfl (by kernel_rfl) (fun _ _ _ h => h) (pureG (by rfl) (by intro w; go_simp; first | done | with_reducible rfl)) ?_
              try simp only [Act.put, List.getElem_toArray, List.getElem_cons_succ, List.getElem_cons_zero, List.setIfInBounds_toArray, List.set_cons_zero, List.set_cons_succ]
              refine wpAnyG_take (oi := _) (v := _) (fun _ _ hS_ hb_ => ⟨gr_bel hS_.1 hb_, hS_.2.gr hb_⟩) (i := 3) rfl (by kernel_rfl) (fun _ _ _ h => h) (pureG (by rfl) (by intro w; go_simp; first | done | with_reducible rfl)) ?_
              try simp only [Act.put, List.getElem_toArray, List.getElem_cons_succ, List.getElem_cons_zero, List.setIfInBounds_toArray, List.set_cons_zero, List.set_cons_succ]
              refine wpAnyG_take (oi := _) (v := _) (fun _ _ hS_ hb_ => ⟨gr_bel hS_.1 hb_, hS_.2.gr hb_⟩) (i := 4) rfl (by kernel_rfl) (fun _ _ _ h => h) (worldG (by rfl) (by intro w_ hS_; have q0 := hS_.2.cell 1; go_simp; first | done | with_reducible rfl)) ?_
              try simp only [Act.put, List.getElem_toArray, List.getElem_cons_succ, List.getElem_cons_zero, List.setIfInBounds_toArray, List.set_cons_zero, List.set_cons_succ]
              refine wpAnyG_take (oi := _) (v := _) (fun _ _ hS_ hb_ => ⟨gr_bel hS_.1 hb_, hS_.2.gr hb_⟩) (i := 5) rfl (by kernel_rfl) (fun _ _ _ h => h) (pureG (by rfl) (by intro w; go_simp; first | done | with_reducible rfl)) ?_
              try simp only [Act.put, List.getElem_toArray, List.getElem_cons_succ, List.getElem_cons_zero, List.setIfInBounds_toArray, List.set_cons_zero, List.set_cons_succ]
              refine wpAnyG_take (oi := _) (v := _) (fun _ _ hS_ hb_ => ⟨gr_bel hS_.1 hb_, hS_.2.gr hb_⟩) (i := 6) rfl (by kernel_rfl) (fun _ _ _ h => h) (pureG (by rfl) (by intro w; go_simp; first | done | with_reducible rfl)) ?_
              try simp only [Act.put, List.getElem_toArray, List.getElem_cons_succ, List.getElem_cons_zero, List.setIfInBounds_toArray, List.set_cons_zero, List.set_cons_succ]
              refine wpAnyG_take (oi := _) (v := _) (fun _ _ hS_ hb_ => ⟨gr_bel hS_.1 hb_, hS_.2.gr hb_⟩) (i := 7) rfl (by kernel_rfl) (fun _ _ _ h => h) (pureG (by rfl) (by intro w; go_simp; first | done | with_reducible rfl)) ?_
              try simp only [Act.put, List.getElem_toArray, List.getElem_cons_succ, List.getElem_cons_zero, List.setIfInBounds_toArray, List.set_cons_zero, List.set_cons_succ]
              refine wpAnyG_take (oi := _) (v := _) (fun _ _ hS_ hb_ => ⟨gr_bel hS_.1 hb_, hS_.2.gr hb_⟩) (i := 8) rfl (by kernel_rfl) (fun _ _ _ h => h) (pureG (by rfl) (by intro w; go_simp; first | done | with_reducible rfl)) ?_
              try simp only [Act.put, List.getElem_toArray, List.getElem_cons_succ, List.getElem_cons_zero, List.setIfInBounds_toArray, List.set_cons_zero, List.set_cons_succ]
              refine wpAnyG_take (oi := _) (v := _) (fun _ _ hS_ hb_ => ⟨gr_bel hS_.1 hb_, hS_.2.gr hb_⟩) (i := 9) rfl (by kernel_rfl) (fun _ _ _ h => h) (worldG (by rfl) (by intro w_ hS_; have q0 := (HK.out w_ hS_.1).1; go_simp; first | done | with_reducible rfl)) ?_
              try simp only [Act.put, List.getElem_toArray, List.getElem_cons_succ, List.getElem_cons_zero, List.setIfInBounds_toArray, List.set_cons_zero, List.set_cons_succ]
              refine wpAnyG_take (oi := _) (v := _) (fun _ _ hS_ hb_ => ⟨gr_bel hS_.1 hb_, hS_.2.gr hb_⟩) (i := 11) rfl (by kernel_rfl) (fun _ _ _ h => h) (pureG (by rfl) (by intro w; go_simp; first | done | with_reducible rfl)) ?_
              try simp only [Act.put, List.getElem_toArray, List.getElem_cons_succ, List.getElem_cons_zero, List.setIfInBounds_toArray, List.set_cons_zero, List.set_cons_succ]
              refine wpAnyG_take (oi := _) (v := _) (fun _ _ hS_ hb_ => ⟨gr_bel hS_.1 hb_, hS_.2.gr hb_⟩) (i := 12) rfl (by kernel_rfl) (fun _ _ _ h => h) (pureG (by rfl) (by intro w; go_simp; first | done | with_reducible rfl)) ?_
              try simp only [Act.put, List.getElem_toArray, List.getElem_cons_succ, List.getElem_cons_zero, List.setIfInBounds_toArray, List.set_cons_zero, List.set_cons_succ]
              refine wpAnyG_take (oi := _) (v := _) (fun _ _ hS_ hb_ => ⟨gr_bel hS_.1 hb_, hS_.2.gr hb_⟩) (i := 13) rfl (by kernel_rfl) (fun _ _ _ h => h) (pureG (by rfl) (by intro w; go_simp; first | done | with_reducible rfl)) ?_
              try simp only [Act.put, List.getElem_toArray, List.getElem_cons_succ, List.getElem_cons_zero, List.setIfInBounds_toArray, List.set_cons_zero, List.set_cons_succ]
              refine wpAnyG_take (oi := _) (v := _) (fun _ _ hS_ hb_ => ⟨gr_bel hS_.1 hb_, hS_.2.gr hb_⟩) (i := 14) rfl (by kernel_rfl) (fun _ _ _ h => h) (pureG (by rfl) (by intro w; go_simp; first | done | with_reducible rfl)) ?_
              try simp only [Act.put, List.getElem_toArray, List.getElem_cons_succ, List.getElem_cons_zero, List.setIfInBounds_toArray, List.set_cons_zero, List.set_cons_succ]
              refine wpAnyG_take (oi := _) (v := _) (fun _ _ hS_ hb_ => ⟨gr_bel hS_.1 hb_, hS_.2.gr hb_⟩) (i := 15) rfl (by kernel_rfl) (fun _ _ _ h => h) (worldG (by rfl) (by intro w_ hS_; have q0 := (HK.out w_ hS_.1).2; go_simp; first | done | with_reducible rfl)) ?_
              try simp only [Act.put, List.getElem_toArray, List.getElem_cons_succ, List.getElem_cons_zero, List.setIfInBounds_toArray, List.set_cons_zero, List.set_cons_succ]
              refine wpAnyG_only (i := 10) (by kernel_rfl) (fun W1 hW1 hS1 => ?_)
              refine wpOp_run rfl (by rfl) (v := .slice (some ⟨W1.heap.size, 0, none⟩) 0 0) (W2 := W1.alloc (.cells #[] 5)) (by go_simp; first | done | with_reducible rfl) ⟨.inr ⟨gr_bel hS1.1 (Gr.alloc _ _), hS1.2.gr (Gr.alloc _ _)⟩, ?_⟩
              try simp only [Act.put, List.getElem_toArray, List.getElem_cons_succ, List.getElem_cons_zero, List.setIfInBounds_toArray, List.set_cons_zero, List.set_cons_succ]
              refine wpAnyG_only (i := 16) (by kernel_rfl) (fun W2 hW2 hS2 => ?_)
              have hz2 := own_below (zero_row W1) hW2
              refine wpOp_append_bytes rfl (by rfl) rfl (.tmp 72) (.tmp 77) rfl W1.heap.size _ 0 [] rfl hz2 x.a 512 x.c x.l rfl (HBX.out.below hS2.1) (by omega) (by have := (Gr.alloc W1 (.cells #[] 5)).size; have := hW2.size; omega) (fun vD W3 hoD hgD => ?_)
              have hG3 : Below W1.heap.size W2 W3 := grown_new0 hgD (Nat.le_refl _) (by have := (Gr.alloc W1 (.cells #[] 5)).size; have := hW2.size; omega)
              have hG13 : Gr W1 W3 := Gr.trans2 ((Gr.alloc W1 (.cells #[] 5)).trans hW2) hG3
              refine ⟨.inr ⟨gr_bel hS1.1 hG13, hS1.2.gr hG13⟩, ?_⟩
              try simp only [Act.put, List.getElem_toArray, List.getElem_cons_succ, List.getElem_cons_zero, List.setIfInBounds_toArray, List.set_cons_zero, List.set_cons_succ]
              obtain ⟨aD, cD, rfl, hbD, hlD⟩ := own_in hoD (by rw [List.nil_append]; exact HBX.out.1.2.2.1) (by omega)
              obtain ⟨gD, rfl⟩ : ∃ gD, aD = some ⟨gD, 0, none⟩ := by
                rcases hoD.2 with ⟨_, h0⟩ | ⟨g, cap, cur, e, _⟩
                · omega
                · injection e with e1; exact ⟨g, e1⟩
              refine wpAnyG_run (i := 17) (v := .agg #[.int .i64 x.N, .slice (some ⟨gD, 0, none⟩) (0 + 512) cD]) (by kernel_rfl) rfl (by rfl) (by intro w_ hS_; go_simp; first | done | with_reducible rfl) ?_
              try simp only [Act.put, List.getElem_toArray, List.getElem_cons_succ, List.getElem_cons_zero, List.setIfInBounds_toArray, List.set_cons_zero, List.set_cons_succ]
              refine wpAnyG_only (i := 18) (by kernel_rfl) (fun W4 hW4 hS4 => ?_)
              refine wpOp_run rfl (by rfl) (v := .slice (some ⟨W4.heap.size, 0, none⟩) 1 1) (W2 := W4.alloc (.cells #[.int .i64 x.N, .slice (some ⟨gD, 0, none⟩) (0 + 512) cD] 62)) (by go_simp; first | done | with_reducible rfl) ⟨.inr ⟨gr_bel hS4.1 (Gr.alloc _ _), hS4.2.gr (Gr.alloc _ _)⟩, ?_⟩
              try simp only [Act.put, List.getElem_toArray, List.getElem_cons_succ, List.getElem_cons_zero, List.setIfInBounds_toArray, List.set_cons_zero, List.set_cons_succ]
              refine wpAnyG_only (i := 19) (by kernel_rfl) (fun W5 hW5 hS5 => ?_)
              have hG05 : Gr wr W5 := (((Gr.drew wr).trans hW1).trans hG13).trans ((hW4.trans (Gr.alloc W4 _)).trans hW5)
              have hG35 : Gr W3 W5 := (hW4.trans (Gr.alloc W4 _)).trans hW5
              obtain ⟨y, hy⟩ : ∃ y : BlkR, y = ⟨x.N, some ⟨gD, 0, none⟩, 512, cD, x.l⟩ := ⟨_, rfl⟩
              have hN5 : Blk W5 W4.heap.size 62 y.cs := by rw [hy]; exact (Blk.new W4 62 _).gr hW5
              refine wpOp_append_blks rfl (by rfl) (.tmp 66) (.tmp 80) rfl w.heap.size (.slice aI bsI.length cI) bsI rfl (own_below HLO.out.1 hG05) (some ⟨W4.heap.size, 0, none⟩) 1 1 [y] rfl (own_cin1 hN5) (fun e => by cases e) (by omega) hS5.1.size (fun vO W6 hoO hgO => ?_)
              have hnr : ∀ j, (Value.slice aI bsI.length cI).ownBlock = some j → w.heap.size ≤ j ∧ j ≠ w.heap.size := fun j hj => by
                obtain ⟨cs2, hc2, _⟩ := own_blk (own_below HLO.out.1 hG05) hj
                exact ⟨own_ge HLO.out.1 hj, blk_ne hc2 hS5.2 (by decide)⟩
              have hb6 : Below w.heap.size w W6 := ⟨hgO.os.trans hS5.1.os, hgO.tape.trans hS5.1.tape, hgO.output.trans hS5.1.output, Nat.le_trans hS5.1.size hgO.size, fun j hj => (hgO.block j (Nat.lt_of_lt_of_le hj hS5.1.size) (fun e => by have := hnr j e.symm; omega)).trans (hS5.1.block j hj)⟩
              have hr6 : Blk W6 w.heap.size 46 [.int .i64 N, .slice aI bsI.length cI, .bool false, .int .i64 0, .bool false, .int .i64 0] := Blk.grown hS5.2 hgO (fun e => (hnr _ e.symm).2 rfl)
              obtain ⟨aO, cO, rfl⟩ : ∃ aO cO, vO = .slice aO (bsI ++ [y]).length cO := by
                rcases hoO.2 with ⟨rfl, h0⟩ | ⟨g, cap, cur, rfl, _⟩
                · exact ⟨none, 0, by rw [h0]⟩
                · exact ⟨_, _, rfl⟩
              obtain ⟨nO, hnO⟩ : ∃ nO, (bsI ++ [y]).length = nO := ⟨_, rfl⟩
              rw [hnO] at hoO
              try rw [hnO]
              refine ⟨.inr ⟨hb6, hr6⟩, ?_⟩
              try simp only [Act.put, List.getElem_toArray, List.getElem_cons_succ, List.getElem_cons_zero, List.setIfInBounds_toArray, List.set_cons_zero, List.set_cons_succ]
              refine wpAnyG_run (i := 20) (v := .pointer (some ⟨w.heap.size, 0, none⟩)) (by kernel_rfl) rfl (by rfl) (by intro w_ hS_; go_simp; first | done | with_reducible rfl) ?_
              try simp only [Act.put, List.getElem_toArray, List.getElem_cons_succ, List.getElem_cons_zero, List.setIfInBounds_toArray, List.set_cons_zero, List.set_cons_succ]
              refine wpAnyG_run (i := 21) (v := .pointer (some ⟨w.heap.size, 1, none⟩)) (by kernel_rfl) rfl (by rfl) (by intro w_ hS_; go_simp; first | done | with_reducible rfl) ?_
              try simp only [Act.put, List.getElem_toArray, List.getElem_cons_succ, List.getElem_cons_zero, List.setIfInBounds_toArray, List.set_cons_zero, List.set_cons_succ]
              refine wpAnyG_only (i := 22) (by kernel_rfl) (fun W7 hW7 hS7 => ?_)
              refine wpOp_skip rfl (by rfl) (W2 := W7.setCell ⟨w.heap.size, 1, none⟩ (.slice aO nO cO)) (by have q0 := hS7.2.cell 1; have q1 := hS7.2.free 1; go_simp; first | done | with_reducible rfl) ⟨.inl ⟨rfl, by kernel_rfl⟩, wpAnyG_done (by kernel_rfl) (fun W8 hW8 => ?_) _⟩
              try simp only [Act.put, List.getElem_toArray, List.getElem_cons_succ, List.getElem_cons_zero, List.setIfInBounds_toArray, List.set_cons_zero, List.set_cons_succ]
              have HFIN := Lib.hid (rnew_fin HRF2.out HLO.out hG05 hG35 (show W3.ownsRow W1.heap.size 5 1 (.slice (some ⟨gD, 0, none⟩) 512 cD) 512 (bytesV x.l) from by simpa using hoD) hS1.1.size HBX.out.1.2.2.1 hgO (hnO ▸ hoO) hy hW7 hS7.2 hW8 hr hN1 HNEW.out)
              have HB8 := Lib.hid (show Below w.heap.size w W8 from gr_bel (hS7.1.trans (grown_new0 (grown_setCell W7 ⟨w.heap.size, 1, none⟩ (.slice aO nO cO)) (Nat.le_refl _) hS7.1.size)) hW8)
              have HYK := Lib.hid (show y.key = x.key from by rw [hy]; rfl)
              clear hgD hnr hgO hG05 hG35 hN5 hz2
              go_wp2_with fail
              go_roundw
              case rel => exact ⟨j + 1, _, _, bsI ++ [y], by go_num, by omega, HR.out.symm, fun z => by
                unfold upB
                rw [List.take_add_one, HX.out]
                by_cases e : z = x.N
                · rw [if_pos e]
                  simp
                  exact .inr e.symm
                · rw [if_neg e, HHS.out z]
                  simp
                  exact fun h => absurd h.symm e, HFIN.out, by
                rw [List.take_add_one, HX.out, List.map_append, List.map_append, HKEY.out]
                simp [HYK.out], HB8.out⟩
              case measure => simp [intOf]; omega
      · have HR := Lib.hid (newR_bad (r := bs.drop (i + 1)) (c := c) (hs := hs) (.inr hr))
        rw [HNR.out] at HR
        by_cases q1 : x.N < 0
        · clear hr
          go_wp2_with fail
          go_ret2
          exact rnewB_no HBL.out 141 HR.out (by omega) rfl
        · have q2 : N ≤ x.N := by omega
          clear hr
          go_wp2_with fail
          go_ret2
          exact rnewB_no HBL.out 141 HR.out (by omega) rfl
    · obtain rfl : i = k := by omega
      have HR := Lib.hid (newR_end HNR.out (by rw [HIN.out.1]; exact Nat.le_refl _))
      have HKE := Lib.hid (show bsI.map BlkR.key = bs.map BlkR.key from by rw [HKEY.out, List.take_of_length_le (by rw [HIN.out.1]; exact Nat.le_refl _)])
      clear hik
      go_wp2_with fail
      go_ret2
      unfold RNewB
      rw [HR.out]
      exact ⟨HBL.out, fun h => absurd rfl h, fun _ => ⟨_, bsI, Nat.le_refl _, rfl, HRF.out, HKE.out⟩⟩
end Go.Proofs.Ytlgpaglkhgomiaa
