/- The flash tells its blocks. Condition: sizes. -/
import Derived.Test.YtlgpaglkhgomiaaTk
import Derived.Test.YtlgpaglkhgomiaaRd
namespace Go.Proofs.Ytlgpaglkhgomiaa
open Go.RowKit Go.Maps
set_option linter.unusedVariables false
set_option maxRecDepth 100000
set_option linter.unusedSimpArgs false
theorem own_ints {w : World} {B n : Nat} {v : Value} {L : List Int} (h : w.ownsRow B 3 1 v n (L.map encZ)) : L.length = n ∧ ∃ a c, v = .slice a n c ∧ (n = 0 ∨ ∃ g, a = some ⟨g, 0, none⟩ ∧ g < w.heap.size ∧ ∀ i x, L[i]? = some x → w.cell? ⟨g, i, none⟩ = some (.int .i64 x)) := by
  have hl : L.length = n := by have := h.1; simpa using this
  refine ⟨hl, ?_⟩
  rcases h.2 with ⟨rfl, h0⟩ | ⟨g, cap, cur, e, hbg, hg, h1, h2, h3, h4⟩
  · exact ⟨none, 0, by rw [h0], .inl h0⟩
  · refine ⟨_, cap, e, .inr ⟨g, rfl, (Array.getElem?_eq_some_iff.1 hg).1, fun i x hx => ?_⟩⟩
    subst e
    have hi : i < L.length := (List.getElem?_eq_some_iff.1 hx).1
    have q := h.cellAt i (by omega)
    rw [q]
    simp [hx, encZ]
/-- the blocks as the flash tells them -/
def FTold (hs : Int → Bool) (c : Int → List Nat) (w : World) (e : Ending) (w' : World) : Prop := ∃ a n cp bs, e = .returned (.slice a n cp) ∧ LIn w' a n bs ∧ n ≤ 1000000000000 ∧ Told hs c bs ∧ Below w.heap.size w w'
set_option maxHeartbeats 6400000 in
theorem fblocks_any (f mb m : Nat) (N cut wt : Int) (on dn : Bool) (hs : Int → Bool) (c : Int → List Nat) (w : World) (h : FlB w f mb N on cut dn wt) (hm : MAt w mb m hs c) (hmx : m ≤ 1000000000000) :
    Calls Try.prog 17 #[.pointer (some ⟨f, 0, none⟩)] w (FTold hs c w) := by
  obtain ⟨D, hD1, hD2, hD3, hD4⟩ := hm
  have hsz := hD1.size_le
  have HK := Lib.hid (keys_any mb w)
  have HS := Lib.hid (sorted_any mb m D RB w hD1 (by unfold maxLen; omega) (by omega))
  have HTK := Lib.hid (fun (ss : List Int) (hp : ss.Perm (intKeys D)) => told_keys hD1 hp)
  have HM := Lib.hid (show MAt w mb m hs c from ⟨D, hD1, hD2, hD3, hD4⟩)
  have HD2 := Lib.hid hD2
  have HWF := Lib.hid (intKeys_wf hD1 Try.underlying3)
  have HD4 := Lib.hid hD4
  have HIK := Lib.hid (int_keys hD1).2
  have HF := Lib.hid h
  have c1 := h.c1
  clear h hD1 hD2 hD3 hD4
  go_enter Try.func17, Try.ntmps17
  go_wp2_with (first | (go_at_call 38; refine HK.out.mono ?_; rintro e w1 ⟨rfl, rfl⟩) | (go_at_call 37; refine HS.out.mono ?_; rintro e w2 ⟨v, ss, rfl, hp, ho, hb⟩))
  have hT := HTK.out ss hp
  have hwf : ∀ x ∈ ss.mergeSort (fun x y => decide (x ≤ y)), I64 x := fun x hx => i_wf (HWF.out x ((HIK.out x).2 ((hT.2.1 x).1 hx)))
  obtain ⟨L, hL⟩ : ∃ L, ss.mergeSort (fun x y => decide (x ≤ y)) = L := ⟨_, rfl⟩
  rw [hL] at hT ho hwf
  obtain ⟨n0, hn0⟩ : ∃ n0, ss.length = n0 := ⟨_, rfl⟩
  rw [hn0] at ho
  obtain ⟨hLl, aS, cS, rfl, hrow⟩ := own_ints ho
  have hn1 : n0 ≤ 1000000000000 := by have := hT.2.2; omega
  have HT := Lib.hid hT
  have HWL := Lib.hid hwf
  have HRW := Lib.hid hrow
  have HB2 := Lib.hid hb
  have HM2 := Lib.hid (HM.out.gr hb)
  have HF2 := Lib.hid (show FlB w2 f mb N on cut dn wt from Blk.below' HF.out hb)
  have hlow : (0 : Int) ≤ (n0 : Int) := by omega
  have hmaxn : (n0 : Int) ≤ 9223372036854775807 := by omega
  have hlenS : ∀ w, (Builtin.len_ #[75] 3 #[.slice aS n0 cS]).run Try.prog w = .ok (.int .i64 (n0 : Int)) w := fun w => by kernel_rfl
  clear hT hwf hrow hb hp ho hL hn0 HK HS HTK HWF HIK c1 HM HF
  go_wp2_with fail
  try rw [hlenS]
  try simp only [Result.andThen]
  go_wp2_with fail
  go_loopw [3, 16] (fun v3 v16 wr => ∃ (i : Nat) (a3 : Option Addr) (c3 : Nat) (bsI : List BlkR), v16 = .int .i64 i ∧ i ≤ n0 ∧ v3 = .slice a3 bsI.length c3 ∧ wr.ownsRow w2.heap.size 62 2 (.slice a3 bsI.length c3) bsI.length (rowC bsI) ∧ TB wr w2.heap.size bsI ∧ bsI.map BlkR.N = L.take i ∧ (∀ b ∈ bsI, b.l = c b.N) ∧ Below w2.heap.size w2 wr) (fun _ v16 _ => n0 - (intOf v16).toNat)
  case atStart => exact ⟨0, none, 0, [], rfl, Nat.zero_le _, rfl, ⟨rfl, .inl ⟨rfl, rfl⟩⟩, fun x hx => (by cases hx), rfl, fun x hx => (by cases hx), Below.refl _ _⟩
  case round =>
    obtain ⟨i, a3, c3, bsI, rfl, hi, rfl, ho, htb, hN, hc, hbel⟩ := hrel
    have HO := Lib.hid ho
    have HTB := Lib.hid htb
    have HN := Lib.hid hN
    have HC := Lib.hid hc
    have HBL := Lib.hid hbel
    have hlenI : bsI.length = i := by have q := congrArg List.length hN; simp at q; omega
    have HLN := Lib.hid hlenI
    clear hlenI
    by_cases hlt : i < n0
    · have hlti : (i : Int) < (n0 : Int) := by omega
      obtain ⟨g, rfl, hgl, hcell⟩ := HRW.out.resolve_left (by omega)
      obtain ⟨x, hx⟩ : ∃ x, L[i]? = some x := ⟨_, List.getElem?_eq_getElem (by omega)⟩
      have k0 : wr.cell? ⟨g, i, none⟩ = some (.int .i64 x) := (hbel.cell (p := ⟨g, i, none⟩) hgl).trans (hcell i x hx)
      have hxI := HWL.out x (List.mem_of_getElem? hx)
      have HX := Lib.hid hx
      have cf1 : wr.cell? ⟨f, 1, none⟩ = some (.map (some mb)) := (show FlB wr f mb N on cut dn wt from Blk.below' HF2.out hbel).c1
      have hlook := (HM2.out.gr hbel).run_look hxI
      have hB := HD4.out x
      have hD := def_new wr (c x)
      obtain ⟨W, hW⟩ : ∃ W, (wr.alloc (.cells Try.zeroCells70 70)).setRow wr.heap.size (natsV .u8 (c x)).toArray = W := ⟨_, rfl⟩
      rw [hW] at hD
      obtain ⟨hd1, hd2, hd3⟩ := hD
      have HW := Lib.hid hW
      have HZ := Lib.hid (zero_new wr)
      obtain ⟨y, hy⟩ : ∃ y : BlkR, y = ⟨x, some ⟨wr.heap.size, 0, none⟩, 512, 512, c x⟩ := ⟨_, rfl⟩
      have hyc : y.cs = [.int .i64 x, .slice (some ⟨wr.heap.size, 0, none⟩) 512 512] := by rw [hy]; rfl
      have ha := (Below.refl W.heap.size W).alloc (Nat.le_refl _) (.cells y.cs.toArray 62)
      have hba : Below wr.heap.size wr (W.alloc (.cells y.cs.toArray 62)) := hd1.trans (ha.mono hd1.size)
      have HOA := Lib.hid (own_below ho hba)
      have HTBA := Lib.hid (htb.below hba)
      have HDA := Lib.hid ((hd2.alloc (.cells y.cs.toArray 62)))
      have HBA := Lib.hid (hbel.trans (hba.mono hbel.size))
      have HNW := Lib.hid (Blk.new W 62 y.cs)
      have hsz2 : w2.heap.size ≤ (W.alloc (.cells y.cs.toArray 62)).heap.size := HBA.out.size
      have hwr2 := hbel.size
      have hlen : bsI.length + 1 ≤ 4398046511104 := by have := HLN.out; omega
      have HY := Lib.hid hy
      rw [hyc] at HOA HTBA HDA HBA HNW hsz2
      have HYC := Lib.hid hyc
      clear ho htb hN hc hbel hcell hx hW hd1 hd2 hd3 hy hyc ha hba
      go_wp2_with (first | (refine stB rfl 70 (.tmp 6) (.tmp 25) rfl wr.heap.size rfl (natsV .u8 (c x)) rfl 70 (natsV .u8 zB) HZ.out (infoBl hB) (by rw [natsV_length, natsV_length, hB.1, zB_is.1]) (natsV_one _ _) ?_; rw [HW.out]) | (refine wpList_append_blk rfl (.tmp 26) (.tmp 30) rfl w2.heap.size _ bsI rfl HOA.out W.heap.size y rfl (by rw [HYC.out]; exact HNW.out) hlen hsz2 ?_))
      intro v' w' ho' hg'
      have hlk : bsI.length + 1 = (bsI ++ [y]).length := by simp
      try rw [← hlk] at ho'
      obtain ⟨a7, c7, rfl⟩ : ∃ a7 c7, v' = .slice a7 (bsI.length + 1) c7 := by
        rcases ho'.2 with ⟨rfl, h0⟩ | ⟨g, cap, cur, rfl, _⟩
        · exact ⟨none, 0, by rw [h0]⟩
        · exact ⟨_, _, rfl⟩
      have hFr : Fr (W.alloc (.cells [.int .i64 x, .slice (some ⟨wr.heap.size, 0, none⟩) 512 512].toArray 62)) w' (fun j => (Value.slice a3 bsI.length c3).ownBlock = some j) := Fr.grown hg' (fun j e _ => e)
      have hno : ∀ q cs, Blk (W.alloc (.cells [.int .i64 x, .slice (some ⟨wr.heap.size, 0, none⟩) 512 512].toArray 62)) q 70 cs → ¬ (Value.slice a3 bsI.length c3).ownBlock = some q := fun q cs hb e => by
        obtain ⟨cs2, hc2, _⟩ := own_blk HOA.out e
        exact blk_ne hb hc2 (by decide) rfl
      have HO' := Lib.hid ho'
      have HTB' := Lib.hid (show TB w' w2.heap.size (bsI ++ [y]) from fun z hz => by
        rcases List.mem_append.1 hz with hz | hz
        · exact (HTBA.out.fr hFr hno) z hz
        · obtain rfl := List.mem_singleton.1 hz
          have e := HY.out
          refine ⟨wr.heap.size, by rw [e], by rw [e], by rw [e], ?_, by rw [e]; exact hB, by rw [e]; exact hxI, hwr2⟩
          rw [show z.l = c x by rw [e]]
          exact blk_fr HDA.out hFr (hno _ _ HDA.out))
      have HB' := Lib.hid (show Below w2.heap.size w2 w' from ⟨hg'.os.trans HBA.out.os, hg'.tape.trans HBA.out.tape, hg'.output.trans HBA.out.output, Nat.le_trans HBA.out.size hg'.size, fun j hj => (hg'.block j (Nat.lt_of_lt_of_le hj HBA.out.size) (fun e => by have := own_ge HOA.out e.symm; omega)).trans (HBA.out.block j hj)⟩)
      have HN' := Lib.hid (show (bsI ++ [y]).map BlkR.N = L.take (i + 1) from by
        rw [List.take_add_one, HX.out, List.map_append, HN.out, HY.out]; rfl)
      have HC' := Lib.hid (show ∀ b ∈ bsI ++ [y], b.l = c b.N from fun b hb => by
        rcases List.mem_append.1 hb with hb | hb
        · exact HC.out b hb
        · obtain rfl := List.mem_singleton.1 hb
          rw [HY.out])
      clear ho' hg' hFr hno HNW HOA HTBA HDA HBA hsz2 k0 cf1 hlook
      go_wp2_with fail
      go_roundw
      case rel => exact ⟨i + 1, a7, c7, bsI ++ [y], by go_num, by omega, by rw [hlk], by rw [← hlk]; exact HO'.out, HTB'.out, HN'.out, HC'.out, HB'.out⟩
      case measure => simp [intOf]; omega
    · have hge : ¬ (i : Int) < (n0 : Int) := by omega
      obtain rfl : i = n0 := by omega
      have HR := Lib.hid (show Told hs c bsI from by
        refine ⟨?_, fun x => ?_, hc⟩
        · rw [hN, List.take_of_length_le (by omega)]; exact HT.out.1
        · rw [hN, List.take_of_length_le (by omega)]
          constructor
          · intro hx
            have hI := HWL.out x hx
            exact ⟨hI, (HD2.out x hI) ▸ (HT.out.2.1 x).1 hx⟩
          · rintro ⟨hI, hx⟩
            exact (HT.out.2.1 x).2 ((HD2.out x hI).trans hx))
      have HLI := Lib.hid (htb.lin ho rfl)
      have HBE := Lib.hid (HB2.out.trans (hbel.mono HB2.out.size))
      clear ho htb hN hc hbel hlt
      go_wp2_with fail
      go_ret
      exact ⟨a3, _, c3, bsI, rfl, HLI.out, by have := HLN.out; omega, HR.out, HBE.out⟩
end Go.Proofs.Ytlgpaglkhgomiaa
