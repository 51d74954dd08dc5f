/- The document's bytes: got, set, loaded, stored, placed, peeked. No condition. -/
import Derived.Test.YtelfhpmbnficfaaPc
import Derived.Test.YtelfhpmbnficfaaDm
import Derived.Test.YtelfhpmbnficfaaDd
namespace Go.Proofs.Ytelfhpmbnficfaa
open Go.RowKit
set_option linter.unusedVariables false
set_option maxRecDepth 100000
set_option linter.unusedSimpArgs false
theorem bin_one (w : World) (x : Nat) (hx : x < 256) : BIn (w.alloc (.cells #[.int .u8 (x : Nat)] 5)) (some ⟨w.heap.size, 0, none⟩) 1 1 [x] :=
  ⟨⟨rfl, by unfold maxLen; omega, by simpa using hx, .inr ⟨_, 0, rfl, fun i hi => by
    obtain rfl : i = 0 := by omega
    exact (Blk.new w 5 [.int .u8 (x : Nat)]).cell 0⟩⟩, Nat.le_refl _, by unfold maxLen; omega, by omega, fun h => by cases h⟩
theorem mem_lt {m : List Nat} (k : MOk m) (i : Nat) : m.getD i 0 < 256 := getD_lt k.bd i
theorem drop_snoc (m : List Nat) (o k : Nat) (h : o + k < m.length) : (m.drop o).take (k + 1) = (m.drop o).take k ++ [m.getD (o + k) 0] := by
  rw [List.take_succ_eq_append_getElem (by rw [List.length_drop]; omega), List.getElem_drop, List.getD_eq_getElem?_getD, List.getElem?_eq_getElem h]; rfl
/-- bytes in new memory -/
def GtIs (L : List Nat) (w : World) (e : Ending) (w' : World) : Prop := ∃ A c, e = .returned (.slice A L.length c) ∧ w'.ownsRow w.heap.size 5 1 (.slice A L.length c) L.length (bytesV L) ∧ Below w.heap.size w w'
theorem GtIs.behind {L : List Nat} {w w1 w2 : World} {e : Ending} (h : GtIs L w1 e w2) (hb : Below w.heap.size w w1) : GtIs L w e w2 := by
  obtain ⟨A, c, h1, h2, h3⟩ := h
  exact ⟨A, c, h1, own_mono h2 hb.size, Gr.trans hb h3⟩
set_option maxHeartbeats 3200000 in
theorem get_any (base a p s o : Nat) (m : List Nat) (t : List Reg) (A : Option Addr) (c : Nat) (w : World) (hp : RAt w base a m t A c) (km : MOk m) (ho : 1073741824 + o = p) (hs : o + s ≤ 65536) :
    Calls Try.prog 12 #[.pointer (some ⟨a, 0, none⟩), .int .u64 (p : Nat), .int .u64 (s : Nat)] w (GtIs ((m.drop o).take s) w) := by
  have hL : ((m.drop o).take s).length = s := by rw [List.length_take, List.length_drop, km.ln]; omega
  have HP := Lib.hid hp
  have HKM := Lib.hid km
  have HOS := Lib.hid hs
  have hwo : IntKind.u64.wrap ((p : Int) - 1073741824) = (o : Int) := u64w (by omega) (by omega)
  have HLL := Lib.hid hL
  have hs64 : (s : Int) ≤ 65536 := by omega
  unfold GtIs
  rw [hL]
  clear hp km ho hs hL
  go_enter Try.func12, Try.ntmps12
  go_wp2
  go_loopw [7, 8] (fun v7 v8 wr => ∃ (k : Nat) (V : Option Addr) (cv : Nat), v7 = .slice V k cv ∧ v8 = .int .u64 (k : Nat) ∧ k ≤ s ∧ wr.ownsRow w.heap.size 5 1 (.slice V k cv) k (bytesV ((m.drop o).take k)) ∧ Below w.heap.size w wr) (fun _ v8 _ => s - (intOf v8).toNat)
  case atStart => exact ⟨0, none, 0, rfl, rfl, Nat.zero_le _, World.ownsRow_nil _ _ _ _, Below.refl _ _⟩
  case round =>
    obtain ⟨k, V, cv, rfl, rfl, hk, hown, hbel⟩ := hrel
    have HO := Lib.hid hown
    have HB := Lib.hid hbel
    by_cases hks : k < s
    · have hkI : (k : Int) < (s : Int) := by omega
      have hk64 : (k : Int) < 65536 := by omega
      obtain ⟨q, hq⟩ : ∃ q, o + k = q := ⟨_, rfl⟩
      have hq6 : q < 65536 := by have := HOS.out; omega
      have hwq : IntKind.u64.wrap ((o : Int) + (k : Int)) = (q : Int) := u64w (by omega) (by omega)
      have hcell := (HP.out.bel hbel).byt HKM.out q hq6
      have hq7 : (q : Int) < 65536 := by omega
      have HSN := Lib.hid (drop_snoc m o k (by rw [HKM.out.ln]; omega))
      rw [hq] at HSN
      obtain ⟨x, hx⟩ : ∃ x, m.getD q 0 = x := ⟨_, rfl⟩
      have hx2 : x < 256 := by rw [← hx]; exact mem_lt HKM.out q
      rw [hx] at hcell HSN
      generalize (m.drop o).take k = L0 at *
      obtain ⟨L1, hL1⟩ : ∃ L1, (m.drop o).take (k + 1) = L1 := ⟨_, rfl⟩
      have HL1 := Lib.hid hL1
      rw [hL1] at HSN
      clear hL1
      clear hown hbel hx hq
      go_wp2_with (at_builtin; refine wpList_append_bytes _ rfl (.tmp 14) (.tmp 24) rfl w.heap.size _ k _ rfl (own_below HO.out (Gr.alloc wr _)) (some ⟨wr.heap.size, 0, none⟩) 1 1 [x] rfl (bin_one wr x hx2) (by omega) (by have := HB.out.size; simp; omega) ?_)
      intro v' w3 hown3 hg3
      rw [← HSN.out] at hown3
      have hks1 : k + 1 ≤ s := hks
      obtain ⟨A3, c3, e3, _⟩ : ∃ A3 c3, v' = .slice A3 (k + 1) c3 ∧ True := by
        rcases hown3.2 with ⟨e1, e2⟩ | ⟨g, cap, cur, e1, _⟩
        · omega
        · exact ⟨_, _, e1, trivial⟩
      subst e3
      have HO3 := Lib.hid hown3
      have HB3 := Lib.hid (show Below w.heap.size w w3 from gr_own (Gr.trans HB.out (Gr.alloc wr _)) (own_below HO.out (Gr.alloc wr _)) hg3)
      clear hown3 hg3 hcell
      go_wp2_with fail
      go_roundw
      case rel => exact ⟨k + 1, A3, c3, rfl, by go_num, hks1, by rw [HL1.out]; exact HO3.out, HB3.out⟩
      case measure => simp [intOf]; omega
    · obtain rfl : k = s := by omega
      clear hks hown hbel
      go_wp2_with fail
      go_ret
      exact ⟨V, cv, rfl, HO.out, HB.out⟩
theorem putM_step (m b : List Nat) (o k : Nat) (hm : m.length = 65536) (hk : k < b.length) (ho : o + b.length ≤ 65536) : (putM m o (b.take k)).set (o + k) (b.getD k 0) = putM m o (b.take (k + 1)) := by
  have hl : (m.take o).length = o := by rw [List.length_take]; omega
  have hk1 : (b.take k).length = k := by rw [List.length_take]; omega
  have hk2 : (b.take (k + 1)).length = k + 1 := by rw [List.length_take]; omega
  unfold putM
  rw [List.set_append_right _ _ (by omega), hl, show o + k - o = k by omega, List.set_append_right _ _ (by omega), hk1, Nat.sub_self, hk2, take_snoc b k hk]
  have hd : m.drop (o + k) = m.getD (o + k) 0 :: m.drop (o + (k + 1)) := by
    rw [List.drop_eq_getElem_cons (by omega)]
    simp [List.getD_eq_getElem?_getD, List.getElem?_eq_getElem (show o + k < m.length by omega), Nat.add_assoc]
  rw [hd, List.set_cons_zero, List.append_assoc]
  rfl
set_option maxHeartbeats 3200000 in
theorem set_any (base a p n cb o : Nat) (B : Option Addr) (b m : List Nat) (t : List Reg) (A : Option Addr) (c : Nat) (w : World) (hp : RAt w base a m t A c) (km : MOk m) (hba : base ≤ a) (hbn : b.length = n) (hB : ∀ W, FrT base tyD w W → BIn W B n cb b) (ho : 1073741824 + o = p) (hs : o + n ≤ 65536) :
    Calls Try.prog 43 #[.pointer (some ⟨a, 0, none⟩), .int .u64 (p : Nat), .slice B n cb] w (DDone base a (.tuple #[]) (putM m o b) t w) := by
  have HP := Lib.hid hp
  have HKM := Lib.hid km
  have HOS := Lib.hid hs
  have HBB := Lib.hid hB
  have HBN := Lib.hid hbn
  have HBA := Lib.hid hba
  have hwo : IntKind.u64.wrap ((p : Int) - 1073741824) = (o : Int) := u64w (by omega) (by omega)
  have hs64 : (n : Int) ≤ 65536 := by omega
  clear hp km ho hs hB hbn hba
  go_enter Try.func43, Try.ntmps43
  go_wp2
  go_loopw [6] (fun v6 wr => ∃ k : Nat, v6 = .int .i64 (k : Nat) ∧ k ≤ n ∧ RAt wr base a (putM m o (b.take k)) t A c ∧ FrT base tyD w wr) (fun v6 _ => n - (intOf v6).toNat)
  case atStart => exact ⟨0, rfl, Nat.zero_le _, by
    have : putM m o (b.take 0) = m := by unfold putM; simp
    rw [this]; exact HP.out, FrT.refl _ _ _⟩
  case round =>
    obtain ⟨k, rfl, hk, hra, hfr⟩ := hrel
    have HRA := Lib.hid hra
    have HFR := Lib.hid hfr
    clear hra hfr
    by_cases hkn : k < n
    · have hkI : (k : Int) < (n : Int) := by omega
      have hk64 : (k : Int) < 65536 := by omega
      obtain ⟨q, hq⟩ : ∃ q, o + k = q := ⟨_, rfl⟩
      have hq6 : q < 65536 := by have := HOS.out; omega
      have hq7 : (q : Int) < 65536 := by omega
      have hwk : IntKind.u64.wrap (k : Int) = (k : Int) := u64w rfl (by omega)
      have hwq : IntKind.u64.wrap ((o : Int) + (k : Int)) = (q : Int) := u64w (by omega) (by omega)
      have HST := Lib.hid (putM_step m b o k HKM.out.ln (by rw [HBN.out]; exact hkn) (by rw [HBN.out]; exact HOS.out))
      rw [hq] at HST
      have HMK := Lib.hid (putM_ok HKM.out (fun x hx => (HBB.out w (FrT.refl _ _ _)).1.2.2.1 x (List.mem_of_mem_take hx)) (by rw [List.length_take]; have := HOS.out; have := HBN.out; omega) : MOk (putM m o (b.take k)))
      obtain ⟨bb, off, hA, hc⟩ := (HBB.out wr HFR.out).1.2.2.2.resolve_left (by omega)
      subst hA
      have HC := Lib.hid (hc k hkn)
      obtain ⟨x, hx⟩ : ∃ x, b.getD k 0 = x := ⟨_, rfl⟩
      rw [hx] at HC HST
      generalize putM m o (b.take k) = mk at *
      obtain ⟨mk1, hm1⟩ : ∃ mk1, putM m o (b.take (k + 1)) = mk1 := ⟨_, rfl⟩
      have HM1 := Lib.hid hm1
      rw [hm1] at HST
      clear hm1
      have HOD := Lib.hid (HRA.out.byt HMK.out q hq6)
      clear hc hx hq
      go_upto_region 3 with (fail)
      refine wp_region_L (fun w_ => w_.cell? ⟨bb, off + k, none⟩ = some (.int .u8 (x : Nat))) [13] [] (by kernel_rfl) HC.out ?_
      refine wpAnyL_take (oi := _) (v := _) (fun _ _ hS_ hb_ => gcell hS_ hb_) (i := 0) rfl (by kernel_rfl) (fun _ _ _ h => h) (pureG (by rfl) (by intro w; go_simp; first | done | with_reducible rfl)) ?_
      try simp only [Act.put, List.getElem_toArray, List.getElem_cons_succ, List.getElem_cons_zero, List.setIfInBounds_toArray, List.set_cons_zero, List.set_cons_succ]
      refine wpAnyL_take (oi := _) (v := _) (fun _ _ hS_ hb_ => gcell hS_ hb_) (i := 1) rfl (by kernel_rfl) (fun _ _ _ h => h) (pureG (by rfl) (by intro w; go_simp; first | done | with_reducible rfl)) ?_
      try simp only [Act.put, List.getElem_toArray, List.getElem_cons_succ, List.getElem_cons_zero, List.setIfInBounds_toArray, List.set_cons_zero, List.set_cons_succ]
      refine wpAnyL_take (oi := _) (v := _) (fun _ _ hS_ hb_ => gcell hS_ hb_) (i := 2) rfl (by kernel_rfl) (fun _ _ _ h => h) (pureG (by rfl) (by intro w; go_simp; first | done | with_reducible rfl)) ?_
      try simp only [Act.put, List.getElem_toArray, List.getElem_cons_succ, List.getElem_cons_zero, List.setIfInBounds_toArray, List.set_cons_zero, List.set_cons_succ]
      refine wpAnyL_take (oi := _) (v := _) (fun _ _ hS_ hb_ => gcell hS_ hb_) (i := 3) rfl (by kernel_rfl) (fun _ _ _ h => h) (pureG (by rfl) (by intro w; go_simp; first | done | with_reducible rfl)) ?_
      try simp only [Act.put, List.getElem_toArray, List.getElem_cons_succ, List.getElem_cons_zero, List.setIfInBounds_toArray, List.set_cons_zero, List.set_cons_succ]
      refine wpAnyL_take (oi := _) (v := _) (fun _ _ hS_ hb_ => gcell hS_ hb_) (i := 4) rfl (by kernel_rfl) (fun _ _ _ h => h) (pureG (by rfl) (by intro w; go_simp; first | done | with_reducible rfl)) ?_
      try simp only [Act.put, List.getElem_toArray, List.getElem_cons_succ, List.getElem_cons_zero, List.setIfInBounds_toArray, List.set_cons_zero, List.set_cons_succ]
      refine wpAnyL_take (oi := _) (v := _) (fun _ _ hS_ hb_ => gcell hS_ hb_) (i := 5) rfl (by kernel_rfl) (fun _ _ _ h => h) (pureG (by rfl) (by intro w; go_simp; first | done | with_reducible rfl)) ?_
      try simp only [Act.put, List.getElem_toArray, List.getElem_cons_succ, List.getElem_cons_zero, List.setIfInBounds_toArray, List.set_cons_zero, List.set_cons_succ]
      refine wpAnyL_take (oi := _) (v := _) (fun _ _ hS_ hb_ => gcell hS_ hb_) (i := 6) rfl (by kernel_rfl) (fun _ _ _ h => h) (pureG (by rfl) (by intro w; go_simp; first | done | with_reducible rfl)) ?_
      try simp only [Act.put, List.getElem_toArray, List.getElem_cons_succ, List.getElem_cons_zero, List.setIfInBounds_toArray, List.set_cons_zero, List.set_cons_succ]
      refine wpAnyL_take (oi := _) (v := _) (fun _ _ hS_ hb_ => gcell hS_ hb_) (i := 7) rfl (by kernel_rfl) (fun _ _ _ h => h) (pureG (by rfl) (by intro w; go_simp; first | done | with_reducible rfl)) ?_
      try simp only [Act.put, List.getElem_toArray, List.getElem_cons_succ, List.getElem_cons_zero, List.setIfInBounds_toArray, List.set_cons_zero, List.set_cons_succ]
      refine wpAnyL_take (oi := _) (v := _) (fun _ _ hS_ hb_ => gcell hS_ hb_) (i := 8) rfl (by kernel_rfl) (fun _ _ _ h => h) (pureG (by rfl) (by intro w; go_simp; first | done | with_reducible rfl)) ?_
      try simp only [Act.put, List.getElem_toArray, List.getElem_cons_succ, List.getElem_cons_zero, List.setIfInBounds_toArray, List.set_cons_zero, List.set_cons_succ]
      refine wpAnyL_take (oi := _) (v := _) (fun _ _ hS_ hb_ => gcell hS_ hb_) (i := 9) rfl (by kernel_rfl) (fun _ _ _ h => h) (worldG (by rfl) (by intro w_ hS_; have q0_ := hS_; go_simp; first | done | with_reducible rfl)) ?_
      try simp only [Act.put, List.getElem_toArray, List.getElem_cons_succ, List.getElem_cons_zero, List.setIfInBounds_toArray, List.set_cons_zero, List.set_cons_succ]
      refine wpAnyL_take (oi := _) (v := _) (fun _ _ hS_ hb_ => gcell hS_ hb_) (i := 10) rfl (by kernel_rfl) (fun _ _ _ h => h) (pureG (by rfl) (by intro w; go_simp; first | done | with_reducible rfl)) ?_
      try simp only [Act.put, List.getElem_toArray, List.getElem_cons_succ, List.getElem_cons_zero, List.setIfInBounds_toArray, List.set_cons_zero, List.set_cons_succ]
      refine wpAnyL_take (oi := _) (v := _) (fun _ _ hS_ hb_ => gcell hS_ hb_) (i := 11) rfl (by kernel_rfl) (fun _ _ _ h => h) (pureG (by rfl) (by intro w; go_simp; first | done | with_reducible rfl)) ?_
      try simp only [Act.put, List.getElem_toArray, List.getElem_cons_succ, List.getElem_cons_zero, List.setIfInBounds_toArray, List.set_cons_zero, List.set_cons_succ]
      refine wpAnyL_take (oi := _) (v := _) (fun _ _ hS_ hb_ => gcell hS_ hb_) (i := 12) rfl (by kernel_rfl) (fun _ _ _ h => h) (pureG (by rfl) (by intro w; go_simp; first | done | with_reducible rfl)) ?_
      try simp only [Act.put, List.getElem_toArray, List.getElem_cons_succ, List.getElem_cons_zero, List.setIfInBounds_toArray, List.set_cons_zero, List.set_cons_succ]
      refine wpAnyL_oneD (i := 13) (by kernel_rfl) rfl rfl (by kernel_rfl) (by decide) (fun W4 hW4 hS4 => ?_)
      have hg4 : Gr wr W4 := (Gr.drew wr).trans hW4
      have hb5 := (HRA.out.bel hg4).blk
      have hce := gcell HOD.out hg4
      have hfe := hb5.free q
      refine wpOp_skip (oi := _) (W2 := W4.setCell ⟨a, q, none⟩ (.int .u8 (x : Nat))) rfl (by rfl) (by unfold execOp; go_simp) ?_
      try simp only [Act.put, List.getElem_toArray, List.getElem_cons_succ, List.getElem_cons_zero, List.setIfInBounds_toArray, List.set_cons_zero, List.set_cons_succ]
      refine wpAnyL_done (by kernel_rfl) (fun WZ hWZ => ?_) _
      have hb6 : Blk (W4.setCell ⟨a, q, none⟩ (.int .u8 (x : Nat))) a 29 (natsV .u8 mk1 ++ [.slice A t.length c]) := by
        have := hb5.set q (.int .u8 (x : Nat))
        rwa [List.set_append_left _ _ (by rw [natsV_length, HMK.out.ln]; omega), natsV_set, HST.out] at this
      have hfin : RAt WZ base a mk1 t A c := ⟨hb6.gr hWZ, own_below (own_grown (HRA.out.bel hg4).row (grown_setCell W4 ⟨a, q, none⟩ _) (fun j hj e => by
        obtain ⟨sp, hbq, _⟩ := own_is (HRA.out.bel hg4).row hj
        injection e with e
        exact blk_ne hb5 hbq (by decide) e)) hWZ⟩
      have HFIN := Lib.hid hfin
      have HFRN := Lib.hid (show FrT base tyD w WZ from ((HFR.out.trans (FrT.bel hg4)).trans (FrT.grown hb5 HBA.out (by decide) (grown_setCell W4 ⟨a, q, none⟩ _))).trans (FrT.bel hWZ))
      clear hfin hb6 hWZ hce hfe hb5 hg4 hS4 hW4
      go_wp2_with fail
      go_roundw
      case rel => exact ⟨k + 1, by go_num, hkn, by rw [HM1.out]; exact HFIN.out, HFRN.out⟩
      case measure => simp [intOf]; omega
    · obtain rfl : k = n := by omega
      have e : b.take k = b := List.take_of_length_le (by rw [HBN.out]; exact Nat.le_refl _)
      rw [e] at HRA
      clear hkn e
      go_wp2_with fail
      refine ⟨rfl, .tuple #[], ?_, rfl, ⟨_, _, HRA.out⟩, HFR.out⟩
      simp [results, Try.results43]
end Go.Proofs.Ytelfhpmbnficfaa
