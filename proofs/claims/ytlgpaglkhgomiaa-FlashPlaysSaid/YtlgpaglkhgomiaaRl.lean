/- The document's flash tells its blocks. Condition: sizes. -/
import Derived.Test.YtlgpaglkhgomiaaRk
import Derived.Test.YtlgpaglkhgomiaaRn
namespace Go.Proofs.Ytlgpaglkhgomiaa
open Go.RowKit
set_option linter.unusedVariables false
set_option maxRecDepth 100000
set_option linter.unusedSimpArgs false
theorem own_cap {w : World} {B e size n c m : Nat} {a : Option Addr} {xs : List Value} (h : w.ownsRow B e size (.slice a n c) m xs) : m ≤ n → n ≤ c ∧ (a = none → c = 0) := by
  intro hm
  rcases h.2 with ⟨e, h0⟩ | ⟨g, cap, cur, e, hbg, hg, h1, _⟩
  · injection e with e1 e2 e3
    subst e1 e2 e3
    exact ⟨Nat.le_refl _, fun _ => rfl⟩
  · injection e with e1 e2 e3
    subst e1 e2 e3
    exact ⟨h1, fun e => by cases e⟩
theorem rl_fin {bs bsO : List BlkR} {i p : Nat} {x y : BlkR} (hx : bs[i]? = some x) (hz : x.l ≠ zB) (hpw : bs.Pairwise (fun x y => x.N ≠ y.N)) (hris : (bsO.map BlkR.N).Pairwise (· < ·)) (hmem : ∀ y, y ∈ bsO.map BlkR.N ↔ ∃ x ∈ bs.take i, x.N = y ∧ x.l ≠ zB) (hcof : ∀ b ∈ bsO, b.l = cOf bs b.N)
    (hp : p ≤ bsO.length) (hyN : y.N = x.N) (hyl : y.l = x.l) (hlo : ∀ m y, m < p → bsO[m]? = some y → y.N < x.N) (hge : ∀ z, bsO[p]? = some z → ¬ z.N < x.N) :
    ((bsO.take p ++ [y] ++ bsO.drop p).map BlkR.N).Pairwise (· < ·) ∧ (∀ z, z ∈ (bsO.take p ++ [y] ++ bsO.drop p).map BlkR.N ↔ ∃ u ∈ bs.take (i + 1), u.N = z ∧ u.l ≠ zB) ∧ ∀ b ∈ bsO.take p ++ [y] ++ bsO.drop p, b.l = cOf bs b.N := by
  have hnew : x.N ∉ bsO.map BlkR.N := fun h => by
    obtain ⟨u, hu, hN, _⟩ := (hmem _).1 h
    obtain ⟨m, hm, e⟩ := List.mem_take_iff_getElem.1 hu
    obtain ⟨h1, h2⟩ := List.getElem?_eq_some_iff.1 hx
    have := List.pairwise_iff_getElem.1 hpw m i (by omega) h1 (by omega)
    rw [e, h2] at this
    exact this hN
  have hset : ∀ {α : Type} (f : BlkR → α) (z : α), z ∈ (bsO.take p ++ [y] ++ bsO.drop p).map f ↔ z ∈ bsO.map f ∨ z = f y := by
    intro α f z
    have e : bsO.map f = (bsO.take p).map f ++ (bsO.drop p).map f := by rw [← List.map_append, List.take_append_drop]
    rw [e]
    simp only [List.map_append, List.mem_append, List.map_cons, List.map_nil, List.mem_singleton]
    constructor
    · rintro ((h | h) | h)
      · exact .inl (.inl h)
      · exact .inr h
      · exact .inl (.inr h)
    · rintro ((h | h) | h)
      · exact .inl (.inl h)
      · exact .inr h
      · exact .inl (.inr h)
  refine ⟨?_, fun z => ?_, fun b hb => ?_⟩
  · rw [List.map_append, List.map_append, List.map_take, List.map_drop, List.map_cons, List.map_nil, hyN]
    refine rise_in hris (by simpa using hp) (fun m z hm hz => ?_) (fun z hz => ?_)
    · rw [List.getElem?_map] at hz
      cases hb : bsO[m]? with
      | none => rw [hb] at hz; cases hz
      | some u =>
        rw [hb] at hz
        injection hz with hz
        exact hz ▸ hlo m u hm hb
    · rw [List.getElem?_map] at hz
      cases hb : bsO[p]? with
      | none => rw [hb] at hz; cases hz
      | some u =>
        rw [hb] at hz
        injection hz with hz
        have h1 := hge u hb
        have h2 : u.N ≠ x.N := fun e => hnew (e ▸ List.mem_map_of_mem (List.mem_of_getElem? hb))
        rw [← hz]
        omega
  · rw [hset, hmem, List.take_add_one, hx, hyN]
    constructor
    · rintro (⟨u, h1, h2⟩ | h)
      · exact ⟨u, by simp [h1], h2⟩
      · exact ⟨x, by simp, h.symm, hz⟩
    · rintro ⟨u, h1, h2, h3⟩
      rcases List.mem_append.1 h1 with h1 | h1
      · exact .inl ⟨u, h1, h2, h3⟩
      · simp at h1; subst h1; exact .inr h2.symm
  · have h1 := (hset id b).1 (by simpa using hb)
    rw [List.map_id] at h1
    rcases h1 with h1 | h1
    · exact hcof b h1
    · rw [show b = y from h1, hyl, hyN, cOf_at hpw (List.mem_of_getElem? hx)]
set_option maxHeartbeats 6400000 in
theorem rblocks_any (base r : Nat) (N left many : Int) (off dn : Bool) (bs : List BlkR) (w : World) (h : RfAt w base r N off left dn many bs) (hN : N ≤ 1048576) :
    Calls Try.prog 18 #[.pointer (some ⟨r, 0, none⟩)] w (FTold (hB bs) (cOf bs) w) := by
  obtain ⟨aL, cL, _, c1, _, _, _, _, hin, hmx⟩ := h.cells
  have hfew := few (fun x hx => (h.2.1 x hx).2) h.2.2 hN
  have hrl := h.lt
  have HIN := Lib.hid hin
  have HPW := Lib.hid h.2.2
  have H5 := Lib.hid h.2.1
  have HII := Lib.hid (show ∀ x ∈ bs, I64 x.N from fun x hx => (hin.2.1 x hx).2)
  have HC1 := Lib.hid (show ∀ w_, Below w.heap.size w w_ → w_.cell? ⟨r, 1, none⟩ = some (.slice aL bs.length cL) from fun w_ hb_ => (hb_.cell (p := ⟨r, 1, none⟩) hrl).trans c1)
  clear h hin hmx c1
  go_enter Try.func18, Try.ntmps18
  go_wp2
  go_loopw [3, 4] (fun v3 v4 wr => ∃ (i : Nat) (a3 : Option Addr) (n3 c3 : Nat) (bsO : List BlkR), v4 = .int .i64 i ∧ i ≤ bs.length ∧ v3 = .slice a3 n3 c3 ∧ bsO.length = n3 ∧ n3 ≤ i ∧ wr.ownsRow w.heap.size 62 2 (.slice a3 n3 c3) n3 (rowC bsO) ∧ (∀ x ∈ bsO, DOwn wr w.heap.size x ∧ I64 x.N) ∧ (bsO.map BlkR.N).Pairwise (· < ·) ∧ (∀ y, y ∈ bsO.map BlkR.N ↔ ∃ x ∈ bs.take i, x.N = y ∧ x.l ≠ zB) ∧ (∀ b ∈ bsO, b.l = cOf bs b.N) ∧ Below w.heap.size w wr) (fun _ v4 _ => bs.length - (intOf v4).toNat)
  case atStart => exact ⟨0, none, 0, 0, [], rfl, Nat.zero_le _, rfl, rfl, Nat.le_refl _, ⟨rfl, .inl ⟨rfl, rfl⟩⟩, fun x hx => (by cases hx), List.Pairwise.nil, fun y => by simp, fun x hx => (by cases hx), Below.refl _ _⟩
  case round =>
    obtain ⟨i, a3, n3, c3, bsO, rfl, hi, rfl, hn3, hni, ho, hd, hris, hmem, hcof, hbel⟩ := hrel
    have HO := Lib.hid ho
    have HD := Lib.hid hd
    have HRS := Lib.hid hris
    have HMEM := Lib.hid hmem
    have HCO := Lib.hid hcof
    have HBL := Lib.hid hbel
    have HN3 := Lib.hid hn3
    have cr1 := HC1.out wr hbel
    clear ho hd hris hmem hcof hbel hn3
    by_cases hik : i < bs.length
    · have hik' : (i : Int) < (bs.length : Int) := by omega
      obtain ⟨b, o, hab, hcell⟩ := HIN.out.2.2.resolve_left (by omega)
      obtain ⟨x, hx⟩ : ∃ x, bs[i]? = some x := ⟨_, List.getElem?_eq_getElem hik⟩
      have hxm := List.mem_of_getElem? hx
      have hn5 : x.n = 512 := (H5.out x hxm).1
      have HK := Lib.hid (show ∀ w_, Below w.heap.size w w_ → w_.cell? ⟨b, o + i * 2, none⟩ = some (.int .i64 x.N) ∧ w_.cell? ⟨b, o + i * 2 + 1, none⟩ = some (.slice x.a 512 x.c) from fun w_ hb_ => ⟨range_cell (range_gr (hcell i x hx) hb_) (j := 0) rfl, hn5 ▸ range_cell (range_gr (hcell i x hx) hb_) (j := 1) rfl⟩)
      have HBX := Lib.hid (show BIn w x.a 512 x.c x.l from hn5 ▸ (HIN.out.2.1 x hxm).1)
      have HNO := Lib.hid (nought_any wr x.a 512 x.c x.l (HBX.out.below HBL.out))
      have hxN := HII.out x hxm
      have HXM := Lib.hid hxm
      have HX := Lib.hid hx
      rw [hab] at HC1 cr1
      have k0 := (HK.out wr HBL.out).1
      have k1 := (HK.out wr HBL.out).2
      clear hcell hx hxm hab hn5
      by_cases hz : x.l = zB
      · have e0 : decide (x.l = zeros 512) = true := decide_eq_true hz
        rw [e0] at HNO
        have HZ := Lib.hid hz
        clear hz e0
        go_wp2_with (go_at_call 39; refine HNO.out.mono ?_; rintro e w' ⟨rfl, rfl⟩)
        go_roundw
        case rel => exact ⟨i + 1, a3, n3, c3, bsO, by go_num, by omega, rfl, HN3.out, by omega, HO.out, HD.out, HRS.out, fun y => by
          rw [HMEM.out y, List.take_add_one, HX.out]
          constructor
          · rintro ⟨z, h1, h2⟩; exact ⟨z, by simp [h1], h2⟩
          · rintro ⟨z, h1, h2, h3⟩
            rcases List.mem_append.1 h1 with h1 | h1
            · exact ⟨z, h1, h2, h3⟩
            · simp at h1; subst h1; exact absurd HZ.out h3, HCO.out, HBL.out⟩
        case measure => simp [intOf]; omega
      · have e0 : decide (x.l = zeros 512) = false := decide_eq_false hz
        rw [e0] at HNO
        have HZ := Lib.hid hz
        clear hz e0
        obtain ⟨w1, rfl⟩ : ∃ w1, w1 = wr := ⟨_, rfl⟩
        go_wp2_with (go_at_call 39; refine HNO.out.mono ?_; rintro e w' ⟨rfl, rfl⟩)
        go_loopw [6] (fun v6 w9 => ∃ p : Nat, v6 = .int .i64 p ∧ p ≤ n3 ∧ (∀ m y, m < p → bsO[m]? = some y → y.N < x.N) ∧ Below w1.heap.size w1 w9) (fun v6 _ => n3 - (intOf v6).toNat)
        case atStart => exact ⟨0, rfl, Nat.zero_le _, fun m y hm => absurd hm (Nat.not_lt_zero m), Below.refl _ _⟩
        case round =>
          obtain ⟨p, rfl, hp, hlo, hb9⟩ := hrel
          have HLO := Lib.hid hlo
          have HB19 := Lib.hid hb9
          have HB9 := Lib.hid (HBL.out.trans (hb9.mono HBL.out.size))
          have e1 := HC1.out wr HB9.out
          have m0 := (HK.out wr HB9.out).1
          clear hlo hb9 k0 k1 cr1
          by_cases hpl : p < n3
          · have hpl' : (p : Int) < (n3 : Int) := by omega
            obtain ⟨b3, o3, hab3, hc3⟩ := ((own_cin HO.out HN3.out).gr HB19.out).2.resolve_left (by omega)
            obtain ⟨y, hy⟩ : ∃ y, bsO[p]? = some y := ⟨_, List.getElem?_eq_getElem (by rw [HN3.out]; exact hpl)⟩
            have m1 : wr.cell? ⟨b3, o3 + p * 2, none⟩ = some (.int .i64 y.N) := range_cell (hc3 p y hy) (j := 0) rfl
            have HY := Lib.hid hy
            subst hab3
            clear hc3 hy
            by_cases hyx : y.N < x.N
            · have HYX := Lib.hid hyx
              go_wp2_with fail
              go_quiet (fail)
              have HBQ := Lib.hid (below_drewN HB19.out nq)
              clear hyx
              go_wp2_with fail
              go_roundw
              case rel => exact ⟨p + 1, by go_num, by omega, fun m z hm hz => by
                by_cases e : m = p
                · subst e; rw [HY.out] at hz; injection hz with hz; exact hz ▸ HYX.out
                · exact HLO.out m z (by omega) hz, HBQ.out⟩
              case measure => simp [intOf]; omega
            · have hge : ∀ z, bsO[p]? = some z → ¬ z.N < x.N := fun z hz => by rw [HY.out] at hz; injection hz with hz; exact hz ▸ hyx
              have HGE := Lib.hid hge
              clear hge
              go_wp2_with fail
              go_quiet (fail)
              have HB19q := below_drewN HB19.out nq
              have HB9q := below_drewN HB9.out nq
              have HB19Q := Lib.hid HB19q
              have hge := HGE.out
              clear e1 m0 m1
              obtain ⟨WQ, hWQ⟩ : ∃ WQ, wr.drewN nq = WQ := ⟨_, rfl⟩
              rw [hWQ] at HB19q HB9q HB19Q
              rw [hWQ]
              clear hWQ
              have HB9Q := Lib.hid HB9q
              have e1 := HC1.out WQ HB9q
              have hcin0 := (own_cin HO.out HN3.out).gr HB19q
              obtain ⟨hnc, hz3⟩ := own_cap HO.out (Nat.le_refl _)
              obtain ⟨a2, hT2, hC2⟩ := slice_to hcin0 hnc hp
              obtain ⟨aF, hTF, hCF, hzF⟩ := slice_from hcin0 hnc hz3 hp
              obtain ⟨nF, hnF⟩ : ∃ nF, n3 - p = nF := ⟨_, rfl⟩
              obtain ⟨cF, hcF⟩ : ∃ cF, c3 - p = cF := ⟨_, rfl⟩
              rw [hnF, hcF] at hTF
              rw [hnF] at hCF
              rw [hcF] at hzF
              have hp3 : (p : Int) ≤ (n3 : Int) := by omega
              have HT2 := Lib.hid hT2
              have HC2Q := Lib.hid hC2
              have HCFA := Lib.hid (hCF.gr (Gr.alloc WQ (.cells #[] 62)))
              have HZB := Lib.hid (zero_rowB WQ)
              have hzsz : WQ.heap.size ≤ (WQ.alloc (.cells #[] 62)).heap.size := (Gr.alloc WQ (.cells #[] 62)).size
              have hnFb : ([] : List BlkR).length + nF ≤ 4398046511104 := by simp; omega
              clear hcin0 hCF hT2 hC2 hz3 hcF
              go_wp2_with (refine wpList_append_blks rfl (.tmp 49) (.tmp 52) rfl WQ.heap.size _ [] rfl HZB.out aF nF cF (bsO.drop p) rfl HCFA.out hzF hnFb hzsz ?_)
              intro vR WR hoR hgR
              obtain ⟨nR, hnR⟩ : ∃ nR, (bsO.drop p).length = nR := ⟨_, rfl⟩
              have hnRb : nR ≤ 1048576 := by rw [← hnR, List.length_drop]; have := HN3.out; omega
              replace hoR : WR.ownsRow WQ.heap.size 62 2 vR nR (rowC (bsO.drop p)) := by rw [← hnR]; simpa using hoR
              have hGQ : Gr WQ WR := Gr.trans2 (Gr.alloc WQ (.cells #[] 62)) (grown_new0 hgR (Nat.le_refl _) hzsz)
              obtain ⟨a3r, c3r, rfl⟩ : ∃ a3r c3r, vR = .slice a3r nR c3r := by
                rcases hoR.2 with ⟨rfl, h0⟩ | ⟨g, cap, cur, rfl, _⟩
                · exact ⟨none, 0, by rw [h0]⟩
                · exact ⟨_, _, rfl⟩
              have hzr := (own_cap hoR (Nat.le_refl _)).2
              have HCR := Lib.hid (own_cin hoR hnR)
              have HBR := Lib.hid (gr_bel HB9Q.out hGQ)
              have HC2 := Lib.hid (HC2Q.out.gr hGQ)
              have HGQ := Lib.hid hGQ
              clear hoR hgR hGQ e1 HCFA HZB hzsz hTF hzF hnFb
              have e1 := HC1.out WR HBR.out
              go_upto_region 11 with (fail)
              refine wp_region_G (fun w_ => Below w.heap.size w w_) 27 (by kernel_rfl) (gr_bel HBR.out (Gr.drew WR)) ?_
              refine wpAnyG_take (oi := _) (v := _) (fun _ _ hS_ hb_ => gr_bel hS_ hb_) (i := 0) rfl (by kernel_rfl) (fun _ _ _ h => h) (pureG (by rfl) (by intro w; go_simp; first | done | with_reducible rfl)) ?_
              try simp only [Act.put, List.getElem_toArray, List.getElem_cons_succ, List.getElem_cons_zero, List.setIfInBounds_toArray, List.set_cons_zero, List.set_cons_succ]
              refine wpAnyG_take (oi := _) (v := _) (fun _ _ hS_ hb_ => gr_bel hS_ hb_) (i := 1) rfl (by kernel_rfl) (fun _ _ _ h => h) (pureG (by rfl) (by intro w; go_simp; first | done | with_reducible rfl)) ?_
              try simp only [Act.put, List.getElem_toArray, List.getElem_cons_succ, List.getElem_cons_zero, List.setIfInBounds_toArray, List.set_cons_zero, List.set_cons_succ]
              refine wpAnyG_take (oi := _) (v := _) (fun _ _ hS_ hb_ => gr_bel hS_ hb_) (i := 2) rfl (by kernel_rfl) (fun _ _ _ h => h) (pureG (by rfl) (by intro w; go_simp; first | done | with_reducible rfl)) ?_
              try simp only [Act.put, List.getElem_toArray, List.getElem_cons_succ, List.getElem_cons_zero, List.setIfInBounds_toArray, List.set_cons_zero, List.set_cons_succ]
              refine wpAnyG_take (oi := _) (v := _) (fun _ _ hS_ hb_ => gr_bel hS_ hb_) (i := 3) rfl (by kernel_rfl) (fun _ _ _ h => h) (pureG (by rfl) (by intro w_; have q0 := HT2.out w_; go_simp; first | done | with_reducible rfl)) ?_
              try simp only [Act.put, List.getElem_toArray, List.getElem_cons_succ, List.getElem_cons_zero, List.setIfInBounds_toArray, List.set_cons_zero, List.set_cons_succ]
              refine wpAnyG_take (oi := _) (v := _) (fun _ _ hS_ hb_ => gr_bel hS_ hb_) (i := 4) rfl (by kernel_rfl) (fun _ _ _ h => h) (pureG (by rfl) (by intro w; go_simp; first | done | with_reducible rfl)) ?_
              try simp only [Act.put, List.getElem_toArray, List.getElem_cons_succ, List.getElem_cons_zero, List.setIfInBounds_toArray, List.set_cons_zero, List.set_cons_succ]
              refine wpAnyG_take (oi := _) (v := _) (fun _ _ hS_ hb_ => gr_bel hS_ hb_) (i := 5) rfl (by kernel_rfl) (fun _ _ _ h => h) (pureG (by rfl) (by intro w; go_simp; first | done | with_reducible rfl)) ?_
              try simp only [Act.put, List.getElem_toArray, List.getElem_cons_succ, List.getElem_cons_zero, List.setIfInBounds_toArray, List.set_cons_zero, List.set_cons_succ]
              refine wpAnyG_take (oi := _) (v := _) (fun _ _ hS_ hb_ => gr_bel hS_ hb_) (i := 6) rfl (by kernel_rfl) (fun _ _ _ h => h) (pureG (by rfl) (by intro w; go_simp; first | done | with_reducible rfl)) ?_
              try simp only [Act.put, List.getElem_toArray, List.getElem_cons_succ, List.getElem_cons_zero, List.setIfInBounds_toArray, List.set_cons_zero, List.set_cons_succ]
              refine wpAnyG_take (oi := _) (v := _) (fun _ _ hS_ hb_ => gr_bel hS_ hb_) (i := 7) rfl (by kernel_rfl) (fun _ _ _ h => h) (worldG (by rfl) (by intro w_ hS_; have q0 := HC1.out w_ hS_; go_simp; first | done | with_reducible rfl)) ?_
              try simp only [Act.put, List.getElem_toArray, List.getElem_cons_succ, List.getElem_cons_zero, List.setIfInBounds_toArray, List.set_cons_zero, List.set_cons_succ]
              refine wpAnyG_take (oi := _) (v := _) (fun _ _ hS_ hb_ => gr_bel hS_ hb_) (i := 8) rfl (by kernel_rfl) (fun _ _ _ h => h) (pureG (by rfl) (by intro w; go_simp; first | done | with_reducible rfl)) ?_
              try simp only [Act.put, List.getElem_toArray, List.getElem_cons_succ, List.getElem_cons_zero, List.setIfInBounds_toArray, List.set_cons_zero, List.set_cons_succ]
              refine wpAnyG_take (oi := _) (v := _) (fun _ _ hS_ hb_ => gr_bel hS_ hb_) (i := 9) rfl (by kernel_rfl) (fun _ _ _ h => h) (pureG (by rfl) (by intro w; go_simp; first | done | with_reducible rfl)) ?_
              try simp only [Act.put, List.getElem_toArray, List.getElem_cons_succ, List.getElem_cons_zero, List.setIfInBounds_toArray, List.set_cons_zero, List.set_cons_succ]
              refine wpAnyG_take (oi := _) (v := _) (fun _ _ hS_ hb_ => gr_bel hS_ hb_) (i := 10) rfl (by kernel_rfl) (fun _ _ _ h => h) (pureG (by rfl) (by intro w; go_simp; first | done | with_reducible rfl)) ?_
              try simp only [Act.put, List.getElem_toArray, List.getElem_cons_succ, List.getElem_cons_zero, List.setIfInBounds_toArray, List.set_cons_zero, List.set_cons_succ]
              refine wpAnyG_take (oi := _) (v := _) (fun _ _ hS_ hb_ => gr_bel hS_ hb_) (i := 11) rfl (by kernel_rfl) (fun _ _ _ h => h) (worldG (by rfl) (by intro w_ hS_; have q0 := (HK.out w_ hS_).1; go_simp; first | done | with_reducible rfl)) ?_
              try simp only [Act.put, List.getElem_toArray, List.getElem_cons_succ, List.getElem_cons_zero, List.setIfInBounds_toArray, List.set_cons_zero, List.set_cons_succ]
              refine wpAnyG_take (oi := _) (v := _) (fun _ _ hS_ hb_ => gr_bel hS_ hb_) (i := 13) rfl (by kernel_rfl) (fun _ _ _ h => h) (pureG (by rfl) (by intro w; go_simp; first | done | with_reducible rfl)) ?_
              try simp only [Act.put, List.getElem_toArray, List.getElem_cons_succ, List.getElem_cons_zero, List.setIfInBounds_toArray, List.set_cons_zero, List.set_cons_succ]
              refine wpAnyG_take (oi := _) (v := _) (fun _ _ hS_ hb_ => gr_bel hS_ hb_) (i := 14) rfl (by kernel_rfl) (fun _ _ _ h => h) (pureG (by rfl) (by intro w; go_simp; first | done | with_reducible rfl)) ?_
              try simp only [Act.put, List.getElem_toArray, List.getElem_cons_succ, List.getElem_cons_zero, List.setIfInBounds_toArray, List.set_cons_zero, List.set_cons_succ]
              refine wpAnyG_take (oi := _) (v := _) (fun _ _ hS_ hb_ => gr_bel hS_ hb_) (i := 15) rfl (by kernel_rfl) (fun _ _ _ h => h) (pureG (by rfl) (by intro w; go_simp; first | done | with_reducible rfl)) ?_
              try simp only [Act.put, List.getElem_toArray, List.getElem_cons_succ, List.getElem_cons_zero, List.setIfInBounds_toArray, List.set_cons_zero, List.set_cons_succ]
              refine wpAnyG_take (oi := _) (v := _) (fun _ _ hS_ hb_ => gr_bel hS_ hb_) (i := 16) rfl (by kernel_rfl) (fun _ _ _ h => h) (worldG (by rfl) (by intro w_ hS_; have q0 := HC1.out w_ hS_; go_simp; first | done | with_reducible rfl)) ?_
              try simp only [Act.put, List.getElem_toArray, List.getElem_cons_succ, List.getElem_cons_zero, List.setIfInBounds_toArray, List.set_cons_zero, List.set_cons_succ]
              refine wpAnyG_take (oi := _) (v := _) (fun _ _ hS_ hb_ => gr_bel hS_ hb_) (i := 17) rfl (by kernel_rfl) (fun _ _ _ h => h) (pureG (by rfl) (by intro w; go_simp; first | done | with_reducible rfl)) ?_
              try simp only [Act.put, List.getElem_toArray, List.getElem_cons_succ, List.getElem_cons_zero, List.setIfInBounds_toArray, List.set_cons_zero, List.set_cons_succ]
              refine wpAnyG_take (oi := _) (v := _) (fun _ _ hS_ hb_ => gr_bel hS_ hb_) (i := 18) rfl (by kernel_rfl) (fun _ _ _ h => h) (pureG (by rfl) (by intro w; go_simp; first | done | with_reducible rfl)) ?_
              try simp only [Act.put, List.getElem_toArray, List.getElem_cons_succ, List.getElem_cons_zero, List.setIfInBounds_toArray, List.set_cons_zero, List.set_cons_succ]
              refine wpAnyG_take (oi := _) (v := _) (fun _ _ hS_ hb_ => gr_bel hS_ hb_) (i := 19) rfl (by kernel_rfl) (fun _ _ _ h => h) (pureG (by rfl) (by intro w; go_simp; first | done | with_reducible rfl)) ?_
              try simp only [Act.put, List.getElem_toArray, List.getElem_cons_succ, List.getElem_cons_zero, List.setIfInBounds_toArray, List.set_cons_zero, List.set_cons_succ]
              refine wpAnyG_take (oi := _) (v := _) (fun _ _ hS_ hb_ => gr_bel hS_ hb_) (i := 20) rfl (by kernel_rfl) (fun _ _ _ h => h) (worldG (by rfl) (by intro w_ hS_; have q0 := (HK.out w_ hS_).2; go_simp; first | done | with_reducible rfl)) ?_
              try simp only [Act.put, List.getElem_toArray, List.getElem_cons_succ, List.getElem_cons_zero, List.setIfInBounds_toArray, List.set_cons_zero, List.set_cons_succ]
              refine wpAnyG_take (oi := _) (v := _) (fun _ _ hS_ hb_ => gr_bel hS_ hb_) (i := 25) rfl (by kernel_rfl) (fun _ _ _ h => h) (pureG (by rfl) (by intro w; go_simp; first | done | with_reducible rfl)) ?_
              try simp only [Act.put, List.getElem_toArray, List.getElem_cons_succ, List.getElem_cons_zero, List.setIfInBounds_toArray, List.set_cons_zero, List.set_cons_succ]
              refine wpAnyG_only (i := 12) (by kernel_rfl) (fun W1 hW1 hS1 => ?_)
              refine wpOp_run rfl (by rfl) (v := .slice (some ⟨W1.heap.size, 0, none⟩) 0 0) (W2 := W1.alloc (.cells #[] 5)) (by go_simp; first | done | with_reducible rfl) ⟨.inr (gr_bel hS1 (Gr.alloc _ _)), ?_⟩
              try simp only [Act.put, List.getElem_toArray, List.getElem_cons_succ, List.getElem_cons_zero, List.setIfInBounds_toArray, List.set_cons_zero, List.set_cons_succ]
              refine wpAnyG_only (i := 21) (by kernel_rfl) (fun W2 hW2 hS2 => ?_)
              have hz2 := own_below (zero_row W1) hW2
              refine wpOp_append_bytes rfl (by rfl) rfl (.tmp 66) (.tmp 74) rfl W1.heap.size _ 0 [] rfl hz2 x.a 512 x.c x.l rfl (HBX.out.below hS2) (by omega) (by have := (Gr.alloc W1 (.cells #[] 5)).size; have := hW2.size; omega) (fun vD W3 hoD hgD => ?_)
              have hG3 : Below W1.heap.size W2 W3 := grown_new0 hgD (Nat.le_refl _) (by have := (Gr.alloc W1 (.cells #[] 5)).size; have := hW2.size; omega)
              have hG13 : Gr W1 W3 := Gr.trans2 ((Gr.alloc W1 (.cells #[] 5)).trans hW2) hG3
              refine ⟨.inr (gr_bel hS1 hG13), ?_⟩
              try simp only [Act.put, List.getElem_toArray, List.getElem_cons_succ, List.getElem_cons_zero, List.setIfInBounds_toArray, List.set_cons_zero, List.set_cons_succ]
              obtain ⟨aD, cD, rfl, hbD, hlD⟩ := own_in hoD (by rw [List.nil_append]; exact HBX.out.1.2.2.1) (by omega)
              obtain ⟨gD, rfl⟩ : ∃ gD, aD = some ⟨gD, 0, none⟩ := by
                rcases hoD.2 with ⟨_, h0⟩ | ⟨g, cap, cur, e, _⟩
                · omega
                · injection e with e1; exact ⟨g, e1⟩
              refine wpAnyG_run (i := 22) (v := .agg #[.int .i64 x.N, .slice (some ⟨gD, 0, none⟩) (0 + 512) cD]) (by kernel_rfl) rfl (by rfl) (by intro w_ hS_; go_simp; first | done | with_reducible rfl) ?_
              try simp only [Act.put, List.getElem_toArray, List.getElem_cons_succ, List.getElem_cons_zero, List.setIfInBounds_toArray, List.set_cons_zero, List.set_cons_succ]
              refine wpAnyG_only (i := 23) (by kernel_rfl) (fun W4 hW4 hS4 => ?_)
              refine wpOp_run rfl (by rfl) (v := .slice (some ⟨W4.heap.size, 0, none⟩) 1 1) (W2 := W4.alloc (.cells #[.int .i64 x.N, .slice (some ⟨gD, 0, none⟩) (0 + 512) cD] 62)) (by go_simp; first | done | with_reducible rfl) ⟨.inr (gr_bel hS4 (Gr.alloc _ _)), ?_⟩
              try simp only [Act.put, List.getElem_toArray, List.getElem_cons_succ, List.getElem_cons_zero, List.setIfInBounds_toArray, List.set_cons_zero, List.set_cons_succ]
              refine wpAnyG_only (i := 24) (by kernel_rfl) (fun W5 hW5 hS5 => ?_)
              have hG05 : Gr WR W5 := (((Gr.drew WR).trans hW1).trans hG13).trans ((hW4.trans (Gr.alloc W4 _)).trans hW5)
              have hG35 : Gr W3 W5 := (hW4.trans (Gr.alloc W4 _)).trans hW5
              obtain ⟨y, hy⟩ : ∃ y : BlkR, y = ⟨x.N, some ⟨gD, 0, none⟩, 512, cD, x.l⟩ := ⟨_, rfl⟩
              have hN5 : Blk W5 W4.heap.size 62 y.cs := by rw [hy]; exact (Blk.new W4 62 _).gr hW5
              refine wpOp_append_full rfl (by rfl) (.tmp 57) (.tmp 77) rfl a2 p (bsO.take p) rfl (HC2.out.gr hG05) ⟨W4.heap.size, 0, none⟩ 1 1 [y] rfl (own_cin1 hN5) (by omega) (by omega) (fun vP W6 hoP hgP => ?_)
              have hG56 : Gr W5 W6 := ⟨hgP.os, hgP.tape, hgP.output, hgP.size, fun j hj => hgP.block j hj (by simp)⟩
              refine ⟨.inr (gr_bel hS5 hG56), ?_⟩
              try simp only [Act.put, List.getElem_toArray, List.getElem_cons_succ, List.getElem_cons_zero, List.setIfInBounds_toArray, List.set_cons_zero, List.set_cons_succ]
              refine wpAnyG_only (i := 26) (by kernel_rfl) (fun W7 hW7 hS7 => ?_)
              have hG07 : Gr WR W7 := (hG05.trans hG56).trans hW7
              refine wpOp_append_blks rfl (by rfl) (.tmp 78) (.tmp 79) rfl W5.heap.size vP (bsO.take p ++ [y]) rfl (own_below hoP hW7) a3r nR c3r (bsO.drop p) rfl (HCR.out.gr hG07) hzr (by rw [List.length_append, List.length_take]; simp; omega) (by have := hG56.size; have := hW7.size; omega) (fun vO W8 hoO hgO => ?_)
              have hG58 : Gr W5 W8 := ⟨hgO.os.trans (hG56.trans hW7).os, hgO.tape.trans (hG56.trans hW7).tape, hgO.output.trans (hG56.trans hW7).output, Nat.le_trans (hG56.trans hW7).size hgO.size, fun j hj => (hgO.block j (Nat.lt_of_lt_of_le hj (hG56.trans hW7).size) (fun e => by have := own_ge hoP e.symm; omega)).trans ((hG56.trans hW7).block j hj)⟩
              have hG08 : Gr WR W8 := hG05.trans hG58
              obtain ⟨nO, hnO⟩ : ∃ nO, (bsO.take p ++ [y] ++ bsO.drop p).length = nO := ⟨_, rfl⟩
              rw [hnO] at hoO
              obtain ⟨aO, cO, rfl⟩ : ∃ aO cO, vO = .slice aO nO cO := by
                rcases hoO.2 with ⟨rfl, h0⟩ | ⟨g, cap, cur, rfl, _⟩
                · exact ⟨none, 0, by rw [h0]⟩
                · exact ⟨_, _, rfl⟩
              refine ⟨.inr (gr_bel HBR.out hG08), ?_⟩
              try simp only [Act.put, List.getElem_toArray, List.getElem_cons_succ, List.getElem_cons_zero, List.setIfInBounds_toArray, List.set_cons_zero, List.set_cons_succ]
              refine wpAnyG_run (i := 27) (v := .slice aO nO cO) (by kernel_rfl) rfl (by rfl) (by intro w_ hS_; go_simp; first | done | with_reducible rfl) ?_
              try simp only [Act.put, List.getElem_toArray, List.getElem_cons_succ, List.getElem_cons_zero, List.setIfInBounds_toArray, List.set_cons_zero, List.set_cons_succ]
              refine wpAnyG_done (by kernel_rfl) (fun W9 hW9 => ?_) _
              have hG9 : Gr WR W9 := hG08.trans hW9
              obtain ⟨hF1, hF2, hF3⟩ := rl_fin (y := y) HX.out HZ.out HPW.out HRS.out HMEM.out HCO.out (by rw [HN3.out]; exact hp) (by rw [hy]) (by rw [hy]) HLO.out (fun z hz => by have := hge z hz; omega)
              have hOF := own_low (own_below hoO hW9) hS5.size
              have hDF : ∀ z ∈ bsO.take p ++ [y] ++ bsO.drop p, DOwn W9 w.heap.size z ∧ I64 z.N := fun z hz => by
                have hg19 : Below w1.heap.size w1 W9 := gr_bel (gr_bel HB19Q.out HGQ.out) hG9
                have hold : ∀ z ∈ bsO, DOwn W9 w.heap.size z ∧ I64 z.N := fun z hz => ⟨(HD.out z hz).1.below hg19, (HD.out z hz).2⟩
                rcases List.mem_append.1 hz with hz | hz
                · rcases List.mem_append.1 hz with hz | hz
                  · exact hold z (List.mem_of_mem_take hz)
                  · obtain rfl := List.mem_singleton.1 hz
                    have hD3 : DOwn W3 w.heap.size z := by
                      rw [hy]
                      refine ⟨own_low (show W3.ownsRow W1.heap.size 5 1 (.slice (some ⟨gD, 0, none⟩) 512 cD) 512 (bytesV x.l) from by simpa using hoD) hS1.size, HBX.out.1.2.2.1, by show 512 ≤ _; omega⟩
                    exact ⟨hD3.below ((hG35.trans hG58).trans hW9), by rw [hy]; exact hxN⟩
                · exact hold z (List.mem_of_mem_drop hz)
              have HF1 := Lib.hid hF1
              have HF2 := Lib.hid hF2
              have HF3 := Lib.hid hF3
              have HOF := Lib.hid hOF
              have HDF := Lib.hid hDF
              have HB9F := Lib.hid (gr_bel HBR.out hG9)
              have HNO2 := Lib.hid hnO
              have hnO2 : nO ≤ i + 1 := by rw [← hnO]; simp; have := HN3.out; omega
              clear hgD hgP hgO hF1 hF2 hF3 hOF hDF hoO hoP hoD hnO hge hz2 hN5
              go_wp2_with fail
              go_roundw
              case rel => exact ⟨i + 1, aO, nO, cO, bsO.take p ++ [y] ++ bsO.drop p, by go_num, by omega, rfl, HNO2.out, hnO2, HOF.out, HDF.out, HF1.out, HF2.out, HF3.out, HB9F.out⟩
              case measure => simp [intOf]; omega
          · have hpl' : ¬ (p : Int) < (n3 : Int) := by omega
            have hge : ∀ z, bsO[p]? = some z → ¬ z.N < x.N := fun z hz => by
              have := (List.getElem?_eq_some_iff.1 hz).1
              have := HN3.out
              omega
            have HGE := Lib.hid hge
            clear hge
            go_wp2_with fail
            go_quiet (fail)
            have HB19q := below_drewN HB19.out nq
            have HB9q := below_drewN HB9.out nq
            have HB19Q := Lib.hid HB19q
            have hge := HGE.out
            clear e1 m0
            obtain ⟨WQ, hWQ⟩ : ∃ WQ, wr.drewN nq = WQ := ⟨_, rfl⟩
            rw [hWQ] at HB19q HB9q HB19Q
            rw [hWQ]
            clear hWQ
            have HB9Q := Lib.hid HB9q
            have e1 := HC1.out WQ HB9q
            have hcin0 := (own_cin HO.out HN3.out).gr HB19q
            obtain ⟨hnc, hz3⟩ := own_cap HO.out (Nat.le_refl _)
            obtain ⟨a2, hT2, hC2⟩ := slice_to hcin0 hnc hp
            obtain ⟨aF, hTF, hCF, hzF⟩ := slice_from hcin0 hnc hz3 hp
            obtain ⟨nF, hnF⟩ : ∃ nF, n3 - p = nF := ⟨_, rfl⟩
            obtain ⟨cF, hcF⟩ : ∃ cF, c3 - p = cF := ⟨_, rfl⟩
            rw [hnF, hcF] at hTF
            rw [hnF] at hCF
            rw [hcF] at hzF
            have hp3 : (p : Int) ≤ (n3 : Int) := by omega
            have HT2 := Lib.hid hT2
            have HC2Q := Lib.hid hC2
            have HCFA := Lib.hid (hCF.gr (Gr.alloc WQ (.cells #[] 62)))
            have HZB := Lib.hid (zero_rowB WQ)
            have hzsz : WQ.heap.size ≤ (WQ.alloc (.cells #[] 62)).heap.size := (Gr.alloc WQ (.cells #[] 62)).size
            have hnFb : ([] : List BlkR).length + nF ≤ 4398046511104 := by simp; omega
            clear hcin0 hCF hT2 hC2 hz3 hcF
            go_wp2_with (refine wpList_append_blks rfl (.tmp 49) (.tmp 52) rfl WQ.heap.size _ [] rfl HZB.out aF nF cF (bsO.drop p) rfl HCFA.out hzF hnFb hzsz ?_)
            intro vR WR hoR hgR
            obtain ⟨nR, hnR⟩ : ∃ nR, (bsO.drop p).length = nR := ⟨_, rfl⟩
            have hnRb : nR ≤ 1048576 := by rw [← hnR, List.length_drop]; have := HN3.out; omega
            replace hoR : WR.ownsRow WQ.heap.size 62 2 vR nR (rowC (bsO.drop p)) := by rw [← hnR]; simpa using hoR
            have hGQ : Gr WQ WR := Gr.trans2 (Gr.alloc WQ (.cells #[] 62)) (grown_new0 hgR (Nat.le_refl _) hzsz)
            obtain ⟨a3r, c3r, rfl⟩ : ∃ a3r c3r, vR = .slice a3r nR c3r := by
              rcases hoR.2 with ⟨rfl, h0⟩ | ⟨g, cap, cur, rfl, _⟩
              · exact ⟨none, 0, by rw [h0]⟩
              · exact ⟨_, _, rfl⟩
            have hzr := (own_cap hoR (Nat.le_refl _)).2
            have HCR := Lib.hid (own_cin hoR hnR)
            have HBR := Lib.hid (gr_bel HB9Q.out hGQ)
            have HC2 := Lib.hid (HC2Q.out.gr hGQ)
            have HGQ := Lib.hid hGQ
            clear hoR hgR hGQ e1 HCFA HZB hzsz hTF hzF hnFb
            have e1 := HC1.out WR HBR.out
            go_upto_region 11 with (fail)
            refine wp_region_G (fun w_ => Below w.heap.size w w_) 27 (by kernel_rfl) (gr_bel HBR.out (Gr.drew WR)) ?_
            refine wpAnyG_take (oi := _) (v := _) (fun _ _ hS_ hb_ => gr_bel hS_ hb_) (i := 0) rfl (by kernel_rfl) (fun _ _ _ h => h) (pureG (by rfl) (by intro w; go_simp; first | done | with_reducible rfl)) ?_
            try simp only [Act.put, List.getElem_toArray, List.getElem_cons_succ, List.getElem_cons_zero, List.setIfInBounds_toArray, List.set_cons_zero, List.set_cons_succ]
            refine wpAnyG_take (oi := _) (v := _) (fun _ _ hS_ hb_ => gr_bel hS_ hb_) (i := 1) rfl (by kernel_rfl) (fun _ _ _ h => h) (pureG (by rfl) (by intro w; go_simp; first | done | with_reducible rfl)) ?_
            try simp only [Act.put, List.getElem_toArray, List.getElem_cons_succ, List.getElem_cons_zero, List.setIfInBounds_toArray, List.set_cons_zero, List.set_cons_succ]
            refine wpAnyG_take (oi := _) (v := _) (fun _ _ hS_ hb_ => gr_bel hS_ hb_) (i := 2) rfl (by kernel_rfl) (fun _ _ _ h => h) (pureG (by rfl) (by intro w; go_simp; first | done | with_reducible rfl)) ?_
            try simp only [Act.put, List.getElem_toArray, List.getElem_cons_succ, List.getElem_cons_zero, List.setIfInBounds_toArray, List.set_cons_zero, List.set_cons_succ]
            refine wpAnyG_take (oi := _) (v := _) (fun _ _ hS_ hb_ => gr_bel hS_ hb_) (i := 3) rfl (by kernel_rfl) (fun _ _ _ h => h) (pureG (by rfl) (by intro w_; have q0 := HT2.out w_; go_simp; first | done | with_reducible rfl)) ?_
            try simp only [Act.put, List.getElem_toArray, List.getElem_cons_succ, List.getElem_cons_zero, List.setIfInBounds_toArray, List.set_cons_zero, List.set_cons_succ]
            refine wpAnyG_take (oi := _) (v := _) (fun _ _ hS_ hb_ => gr_bel hS_ hb_) (i := 4) rfl (by kernel_rfl) (fun _ _ _ h => h) (pureG (by rfl) (by intro w; go_simp; first | done | with_reducible rfl)) ?_
            try simp only [Act.put, List.getElem_toArray, List.getElem_cons_succ, List.getElem_cons_zero, List.setIfInBounds_toArray, List.set_cons_zero, List.set_cons_succ]
            refine wpAnyG_take (oi := _) (v := _) (fun _ _ hS_ hb_ => gr_bel hS_ hb_) (i := 5) rfl (by kernel_rfl) (fun _ _ _ h => h) (pureG (by rfl) (by intro w; go_simp; first | done | with_reducible rfl)) ?_
            try simp only [Act.put, List.getElem_toArray, List.getElem_cons_succ, List.getElem_cons_zero, List.setIfInBounds_toArray, List.set_cons_zero, List.set_cons_succ]
            refine wpAnyG_take (oi := _) (v := _) (fun _ _ hS_ hb_ => gr_bel hS_ hb_) (i := 6) rfl (by kernel_rfl) (fun _ _ _ h => h) (pureG (by rfl) (by intro w; go_simp; first | done | with_reducible rfl)) ?_
            try simp only [Act.put, List.getElem_toArray, List.getElem_cons_succ, List.getElem_cons_zero, List.setIfInBounds_toArray, List.set_cons_zero, List.set_cons_succ]
            refine wpAnyG_take (oi := _) (v := _) (fun _ _ hS_ hb_ => gr_bel hS_ hb_) (i := 7) rfl (by kernel_rfl) (fun _ _ _ h => h) (worldG (by rfl) (by intro w_ hS_; have q0 := HC1.out w_ hS_; go_simp; first | done | with_reducible rfl)) ?_
            try simp only [Act.put, List.getElem_toArray, List.getElem_cons_succ, List.getElem_cons_zero, List.setIfInBounds_toArray, List.set_cons_zero, List.set_cons_succ]
            refine wpAnyG_take (oi := _) (v := _) (fun _ _ hS_ hb_ => gr_bel hS_ hb_) (i := 8) rfl (by kernel_rfl) (fun _ _ _ h => h) (pureG (by rfl) (by intro w; go_simp; first | done | with_reducible rfl)) ?_
            try simp only [Act.put, List.getElem_toArray, List.getElem_cons_succ, List.getElem_cons_zero, List.setIfInBounds_toArray, List.set_cons_zero, List.set_cons_succ]
            refine wpAnyG_take (oi := _) (v := _) (fun _ _ hS_ hb_ => gr_bel hS_ hb_) (i := 9) rfl (by kernel_rfl) (fun _ _ _ h => h) (pureG (by rfl) (by intro w; go_simp; first | done | with_reducible rfl)) ?_
            try simp only [Act.put, List.getElem_toArray, List.getElem_cons_succ, List.getElem_cons_zero, List.setIfInBounds_toArray, List.set_cons_zero, List.set_cons_succ]
            refine wpAnyG_take (oi := _) (v := _) (fun _ _ hS_ hb_ => gr_bel hS_ hb_) (i := 10) rfl (by kernel_rfl) (fun _ _ _ h => h) (pureG (by rfl) (by intro w; go_simp; first | done | with_reducible rfl)) ?_
            try simp only [Act.put, List.getElem_toArray, List.getElem_cons_succ, List.getElem_cons_zero, List.setIfInBounds_toArray, List.set_cons_zero, List.set_cons_succ]
            refine wpAnyG_take (oi := _) (v := _) (fun _ _ hS_ hb_ => gr_bel hS_ hb_) (i := 11) rfl (by kernel_rfl) (fun _ _ _ h => h) (worldG (by rfl) (by intro w_ hS_; have q0 := (HK.out w_ hS_).1; go_simp; first | done | with_reducible rfl)) ?_
            try simp only [Act.put, List.getElem_toArray, List.getElem_cons_succ, List.getElem_cons_zero, List.setIfInBounds_toArray, List.set_cons_zero, List.set_cons_succ]
            refine wpAnyG_take (oi := _) (v := _) (fun _ _ hS_ hb_ => gr_bel hS_ hb_) (i := 13) rfl (by kernel_rfl) (fun _ _ _ h => h) (pureG (by rfl) (by intro w; go_simp; first | done | with_reducible rfl)) ?_
            try simp only [Act.put, List.getElem_toArray, List.getElem_cons_succ, List.getElem_cons_zero, List.setIfInBounds_toArray, List.set_cons_zero, List.set_cons_succ]
            refine wpAnyG_take (oi := _) (v := _) (fun _ _ hS_ hb_ => gr_bel hS_ hb_) (i := 14) rfl (by kernel_rfl) (fun _ _ _ h => h) (pureG (by rfl) (by intro w; go_simp; first | done | with_reducible rfl)) ?_
            try simp only [Act.put, List.getElem_toArray, List.getElem_cons_succ, List.getElem_cons_zero, List.setIfInBounds_toArray, List.set_cons_zero, List.set_cons_succ]
            refine wpAnyG_take (oi := _) (v := _) (fun _ _ hS_ hb_ => gr_bel hS_ hb_) (i := 15) rfl (by kernel_rfl) (fun _ _ _ h => h) (pureG (by rfl) (by intro w; go_simp; first | done | with_reducible rfl)) ?_
            try simp only [Act.put, List.getElem_toArray, List.getElem_cons_succ, List.getElem_cons_zero, List.setIfInBounds_toArray, List.set_cons_zero, List.set_cons_succ]
            refine wpAnyG_take (oi := _) (v := _) (fun _ _ hS_ hb_ => gr_bel hS_ hb_) (i := 16) rfl (by kernel_rfl) (fun _ _ _ h => h) (worldG (by rfl) (by intro w_ hS_; have q0 := HC1.out w_ hS_; go_simp; first | done | with_reducible rfl)) ?_
            try simp only [Act.put, List.getElem_toArray, List.getElem_cons_succ, List.getElem_cons_zero, List.setIfInBounds_toArray, List.set_cons_zero, List.set_cons_succ]
            refine wpAnyG_take (oi := _) (v := _) (fun _ _ hS_ hb_ => gr_bel hS_ hb_) (i := 17) rfl (by kernel_rfl) (fun _ _ _ h => h) (pureG (by rfl) (by intro w; go_simp; first | done | with_reducible rfl)) ?_
            try simp only [Act.put, List.getElem_toArray, List.getElem_cons_succ, List.getElem_cons_zero, List.setIfInBounds_toArray, List.set_cons_zero, List.set_cons_succ]
            refine wpAnyG_take (oi := _) (v := _) (fun _ _ hS_ hb_ => gr_bel hS_ hb_) (i := 18) rfl (by kernel_rfl) (fun _ _ _ h => h) (pureG (by rfl) (by intro w; go_simp; first | done | with_reducible rfl)) ?_
            try simp only [Act.put, List.getElem_toArray, List.getElem_cons_succ, List.getElem_cons_zero, List.setIfInBounds_toArray, List.set_cons_zero, List.set_cons_succ]
            refine wpAnyG_take (oi := _) (v := _) (fun _ _ hS_ hb_ => gr_bel hS_ hb_) (i := 19) rfl (by kernel_rfl) (fun _ _ _ h => h) (pureG (by rfl) (by intro w; go_simp; first | done | with_reducible rfl)) ?_
            try simp only [Act.put, List.getElem_toArray, List.getElem_cons_succ, List.getElem_cons_zero, List.setIfInBounds_toArray, List.set_cons_zero, List.set_cons_succ]
            refine wpAnyG_take (oi := _) (v := _) (fun _ _ hS_ hb_ => gr_bel hS_ hb_) (i := 20) rfl (by kernel_rfl) (fun _ _ _ h => h) (worldG (by rfl) (by intro w_ hS_; have q0 := (HK.out w_ hS_).2; go_simp; first | done | with_reducible rfl)) ?_
            try simp only [Act.put, List.getElem_toArray, List.getElem_cons_succ, List.getElem_cons_zero, List.setIfInBounds_toArray, List.set_cons_zero, List.set_cons_succ]
            refine wpAnyG_take (oi := _) (v := _) (fun _ _ hS_ hb_ => gr_bel hS_ hb_) (i := 25) rfl (by kernel_rfl) (fun _ _ _ h => h) (pureG (by rfl) (by intro w; go_simp; first | done | with_reducible rfl)) ?_
            try simp only [Act.put, List.getElem_toArray, List.getElem_cons_succ, List.getElem_cons_zero, List.setIfInBounds_toArray, List.set_cons_zero, List.set_cons_succ]
            refine wpAnyG_only (i := 12) (by kernel_rfl) (fun W1 hW1 hS1 => ?_)
            refine wpOp_run rfl (by rfl) (v := .slice (some ⟨W1.heap.size, 0, none⟩) 0 0) (W2 := W1.alloc (.cells #[] 5)) (by go_simp; first | done | with_reducible rfl) ⟨.inr (gr_bel hS1 (Gr.alloc _ _)), ?_⟩
            try simp only [Act.put, List.getElem_toArray, List.getElem_cons_succ, List.getElem_cons_zero, List.setIfInBounds_toArray, List.set_cons_zero, List.set_cons_succ]
            refine wpAnyG_only (i := 21) (by kernel_rfl) (fun W2 hW2 hS2 => ?_)
            have hz2 := own_below (zero_row W1) hW2
            refine wpOp_append_bytes rfl (by rfl) rfl (.tmp 66) (.tmp 74) rfl W1.heap.size _ 0 [] rfl hz2 x.a 512 x.c x.l rfl (HBX.out.below hS2) (by omega) (by have := (Gr.alloc W1 (.cells #[] 5)).size; have := hW2.size; omega) (fun vD W3 hoD hgD => ?_)
            have hG3 : Below W1.heap.size W2 W3 := grown_new0 hgD (Nat.le_refl _) (by have := (Gr.alloc W1 (.cells #[] 5)).size; have := hW2.size; omega)
            have hG13 : Gr W1 W3 := Gr.trans2 ((Gr.alloc W1 (.cells #[] 5)).trans hW2) hG3
            refine ⟨.inr (gr_bel hS1 hG13), ?_⟩
            try simp only [Act.put, List.getElem_toArray, List.getElem_cons_succ, List.getElem_cons_zero, List.setIfInBounds_toArray, List.set_cons_zero, List.set_cons_succ]
            obtain ⟨aD, cD, rfl, hbD, hlD⟩ := own_in hoD (by rw [List.nil_append]; exact HBX.out.1.2.2.1) (by omega)
            obtain ⟨gD, rfl⟩ : ∃ gD, aD = some ⟨gD, 0, none⟩ := by
              rcases hoD.2 with ⟨_, h0⟩ | ⟨g, cap, cur, e, _⟩
              · omega
              · injection e with e1; exact ⟨g, e1⟩
            refine wpAnyG_run (i := 22) (v := .agg #[.int .i64 x.N, .slice (some ⟨gD, 0, none⟩) (0 + 512) cD]) (by kernel_rfl) rfl (by rfl) (by intro w_ hS_; go_simp; first | done | with_reducible rfl) ?_
            try simp only [Act.put, List.getElem_toArray, List.getElem_cons_succ, List.getElem_cons_zero, List.setIfInBounds_toArray, List.set_cons_zero, List.set_cons_succ]
            refine wpAnyG_only (i := 23) (by kernel_rfl) (fun W4 hW4 hS4 => ?_)
            refine wpOp_run rfl (by rfl) (v := .slice (some ⟨W4.heap.size, 0, none⟩) 1 1) (W2 := W4.alloc (.cells #[.int .i64 x.N, .slice (some ⟨gD, 0, none⟩) (0 + 512) cD] 62)) (by go_simp; first | done | with_reducible rfl) ⟨.inr (gr_bel hS4 (Gr.alloc _ _)), ?_⟩
            try simp only [Act.put, List.getElem_toArray, List.getElem_cons_succ, List.getElem_cons_zero, List.setIfInBounds_toArray, List.set_cons_zero, List.set_cons_succ]
            refine wpAnyG_only (i := 24) (by kernel_rfl) (fun W5 hW5 hS5 => ?_)
            have hG05 : Gr WR W5 := (((Gr.drew WR).trans hW1).trans hG13).trans ((hW4.trans (Gr.alloc W4 _)).trans hW5)
            have hG35 : Gr W3 W5 := (hW4.trans (Gr.alloc W4 _)).trans hW5
            obtain ⟨y, hy⟩ : ∃ y : BlkR, y = ⟨x.N, some ⟨gD, 0, none⟩, 512, cD, x.l⟩ := ⟨_, rfl⟩
            have hN5 : Blk W5 W4.heap.size 62 y.cs := by rw [hy]; exact (Blk.new W4 62 _).gr hW5
            refine wpOp_append_full rfl (by rfl) (.tmp 57) (.tmp 77) rfl a2 p (bsO.take p) rfl (HC2.out.gr hG05) ⟨W4.heap.size, 0, none⟩ 1 1 [y] rfl (own_cin1 hN5) (by omega) (by omega) (fun vP W6 hoP hgP => ?_)
            have hG56 : Gr W5 W6 := ⟨hgP.os, hgP.tape, hgP.output, hgP.size, fun j hj => hgP.block j hj (by simp)⟩
            refine ⟨.inr (gr_bel hS5 hG56), ?_⟩
            try simp only [Act.put, List.getElem_toArray, List.getElem_cons_succ, List.getElem_cons_zero, List.setIfInBounds_toArray, List.set_cons_zero, List.set_cons_succ]
            refine wpAnyG_only (i := 26) (by kernel_rfl) (fun W7 hW7 hS7 => ?_)
            have hG07 : Gr WR W7 := (hG05.trans hG56).trans hW7
            refine wpOp_append_blks rfl (by rfl) (.tmp 78) (.tmp 79) rfl W5.heap.size vP (bsO.take p ++ [y]) rfl (own_below hoP hW7) a3r nR c3r (bsO.drop p) rfl (HCR.out.gr hG07) hzr (by rw [List.length_append, List.length_take]; simp; omega) (by have := hG56.size; have := hW7.size; omega) (fun vO W8 hoO hgO => ?_)
            have hG58 : Gr W5 W8 := ⟨hgO.os.trans (hG56.trans hW7).os, hgO.tape.trans (hG56.trans hW7).tape, hgO.output.trans (hG56.trans hW7).output, Nat.le_trans (hG56.trans hW7).size hgO.size, fun j hj => (hgO.block j (Nat.lt_of_lt_of_le hj (hG56.trans hW7).size) (fun e => by have := own_ge hoP e.symm; omega)).trans ((hG56.trans hW7).block j hj)⟩
            have hG08 : Gr WR W8 := hG05.trans hG58
            obtain ⟨nO, hnO⟩ : ∃ nO, (bsO.take p ++ [y] ++ bsO.drop p).length = nO := ⟨_, rfl⟩
            rw [hnO] at hoO
            obtain ⟨aO, cO, rfl⟩ : ∃ aO cO, vO = .slice aO nO cO := by
              rcases hoO.2 with ⟨rfl, h0⟩ | ⟨g, cap, cur, rfl, _⟩
              · exact ⟨none, 0, by rw [h0]⟩
              · exact ⟨_, _, rfl⟩
            refine ⟨.inr (gr_bel HBR.out hG08), ?_⟩
            try simp only [Act.put, List.getElem_toArray, List.getElem_cons_succ, List.getElem_cons_zero, List.setIfInBounds_toArray, List.set_cons_zero, List.set_cons_succ]
            refine wpAnyG_run (i := 27) (v := .slice aO nO cO) (by kernel_rfl) rfl (by rfl) (by intro w_ hS_; go_simp; first | done | with_reducible rfl) ?_
            try simp only [Act.put, List.getElem_toArray, List.getElem_cons_succ, List.getElem_cons_zero, List.setIfInBounds_toArray, List.set_cons_zero, List.set_cons_succ]
            refine wpAnyG_done (by kernel_rfl) (fun W9 hW9 => ?_) _
            have hG9 : Gr WR W9 := hG08.trans hW9
            obtain ⟨hF1, hF2, hF3⟩ := rl_fin (y := y) HX.out HZ.out HPW.out HRS.out HMEM.out HCO.out (by rw [HN3.out]; exact hp) (by rw [hy]) (by rw [hy]) HLO.out (fun z hz => by have := hge z hz; omega)
            have hOF := own_low (own_below hoO hW9) hS5.size
            have hDF : ∀ z ∈ bsO.take p ++ [y] ++ bsO.drop p, DOwn W9 w.heap.size z ∧ I64 z.N := fun z hz => by
              have hg19 : Below w1.heap.size w1 W9 := gr_bel (gr_bel HB19Q.out HGQ.out) hG9
              have hold : ∀ z ∈ bsO, DOwn W9 w.heap.size z ∧ I64 z.N := fun z hz => ⟨(HD.out z hz).1.below hg19, (HD.out z hz).2⟩
              rcases List.mem_append.1 hz with hz | hz
              · rcases List.mem_append.1 hz with hz | hz
                · exact hold z (List.mem_of_mem_take hz)
                · obtain rfl := List.mem_singleton.1 hz
                  have hD3 : DOwn W3 w.heap.size z := by
                    rw [hy]
                    refine ⟨own_low (show W3.ownsRow W1.heap.size 5 1 (.slice (some ⟨gD, 0, none⟩) 512 cD) 512 (bytesV x.l) from by simpa using hoD) hS1.size, HBX.out.1.2.2.1, by show 512 ≤ _; omega⟩
                  exact ⟨hD3.below ((hG35.trans hG58).trans hW9), by rw [hy]; exact hxN⟩
              · exact hold z (List.mem_of_mem_drop hz)
            have HF1 := Lib.hid hF1
            have HF2 := Lib.hid hF2
            have HF3 := Lib.hid hF3
            have HOF := Lib.hid hOF
            have HDF := Lib.hid hDF
            have HB9F := Lib.hid (gr_bel HBR.out hG9)
            have HNO2 := Lib.hid hnO
            have hnO2 : nO ≤ i + 1 := by rw [← hnO]; simp; have := HN3.out; omega
            clear hgD hgP hgO hF1 hF2 hF3 hOF hDF hoO hoP hoD hnO hge hz2 hN5
            go_wp2_with fail
            go_roundw
            case rel => exact ⟨i + 1, aO, nO, cO, bsO.take p ++ [y] ++ bsO.drop p, by go_num, by omega, rfl, HNO2.out, hnO2, HOF.out, HDF.out, HF1.out, HF2.out, HF3.out, HB9F.out⟩
            case measure => simp [intOf]; omega
    · obtain rfl : i = bs.length := by omega
      have HT := Lib.hid (told_of HPW.out HII.out HRS.out (fun y => by have q := HMEM.out y; rwa [List.take_length] at q) HCO.out)
      have HL := Lib.hid (own_lin HO.out HN3.out HD.out)
      clear hik
      go_wp2_with fail
      go_ret
      exact ⟨a3, n3, c3, bsO, rfl, HL.out, by omega, HT.out, HBL.out⟩
end Go.Proofs.Ytlgpaglkhgomiaa
