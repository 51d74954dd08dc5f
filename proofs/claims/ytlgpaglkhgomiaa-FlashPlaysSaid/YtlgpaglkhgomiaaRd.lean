/- The document's put. Condition: sizes. -/
import Derived.Test.YtlgpaglkhgomiaaRb
import Derived.Test.YtlgpaglkhgomiaaSn
namespace Go.Proofs.Ytlgpaglkhgomiaa
open Go.RowKit
set_option linter.unusedVariables false
set_option maxRecDepth 100000
set_option linter.unusedSimpArgs false
theorem pigeon : ∀ (M : Nat) (l : List Nat), l.Nodup → (∀ x ∈ l, x < M) → l.length ≤ M
  | 0, l, _, h => by
    cases l with
    | nil => simp
    | cons x r => exact absurd (h x (by simp)) (by omega)
  | M + 1, l, hn, h => by
    by_cases hm : M ∈ l
    · have h1 := pigeon M (l.erase M) (hn.erase M) (fun x hx => by
        have h2 := (hn.mem_erase_iff).1 hx
        have := h x h2.2
        have := h2.1
        omega)
      rw [List.length_erase_of_mem hm] at h1
      omega
    · have h1 := pigeon M l hn (fun x hx => by
        have := h x hx
        have : x ≠ M := fun e => hm (e ▸ hx)
        omega)
      omega
theorem few {bs : List BlkR} {N : Int} (h1 : ∀ x ∈ bs, 0 ≤ x.N ∧ x.N < N) (h2 : bs.Pairwise (fun x y => x.N ≠ y.N)) (hN : N ≤ 1048576) : bs.length ≤ 1048576 := by
  have h := pigeon 1048576 (bs.map fun x => x.N.toNat) (by
    rw [List.Nodup, List.pairwise_map]
    refine h2.imp_of_mem (fun {a b} ha hb hab e => ?_)
    have := h1 a ha
    have := h1 b hb
    omega) (fun x hx => by
    obtain ⟨b, hb, rfl⟩ := List.mem_map.1 hx
    have := h1 b hb
    omega)
  simpa using h
theorem info62p : (Try.prog.info? 62).map (fun i => (i.zero, i.size, i.bytes)) = some (some (.agg #[.int .i64 0, .slice none 0 0]), 2, 32) := by kernel_rfl
/-- the blocks that are kept -/
def keepL (n : Int) (bs : List BlkR) : List BlkR := bs.filter fun b => b.N != n
theorem keepL_take (n : Int) (bs : List BlkR) (i : Nat) (x : BlkR) (h : bs[i]? = some x) : keepL n (bs.take (i + 1)) = if (x.N != n) = true then keepL n (bs.take i) ++ [x] else keepL n (bs.take i) := by
  unfold keepL
  rw [List.take_add_one, h]
  simp [List.filter_append, List.filter_cons]
  split <;> simp
theorem keepL_len (n : Int) (bs : List BlkR) (i : Nat) : (keepL n (bs.take i)).length ≤ bs.length :=
  Nat.le_trans (List.length_filter_le _ _) (by simp; omega)
/-- one block more onto a list -/
theorem wpList_append_blk {w : World} {ops : Array Oper} {rest : List Oper} {o : Oper} {a : Act} {Q : Exit → Act → World → Prop} (hgd : o.guard = none) (s x : Operand)
    (ho : o.op = .call { callee := .builtin .append, args := #[s, x], argTypes := #[22, 22] })
    (base : Nat) (v : Value) (bs : List BlkR) (hs : a.eval s = v) (hown : w.ownsRow base 62 2 v bs.length (rowC bs)) (g : Nat) (y : BlkR) (hx : a.eval x = .slice (some ⟨g, 0, none⟩) 1 1) (hg : Blk w g 62 y.cs)
    (hb : bs.length + 1 ≤ 4398046511104) (hbase : base ≤ w.heap.size)
    (h : ∀ v' w', w'.ownsRow base 62 2 v' (bs ++ [y]).length (rowC (bs ++ [y])) → w.grownBy w' v.ownBlock → wpList Try.prog ops Q rest (a.put o.dst v') w') : wpList Try.prog ops Q (o :: rest) a w := by
  obtain ⟨i0, hi, hz0, hz1, hz2⟩ := info_parts info62p
  refine wpList_append_own w hgd s x 22 ho base 62 i0 (.agg #[.int .i64 0, .slice none 0 0]) 2 32 Try.underlying22 hi hz0 hz1 hz2 rfl (by decide) v bs.length (rowC bs) hs hown ⟨g, 0, none⟩ 1 1 y.cs hx rfl (fun j u hu => ?_) (fun u hu => rowC_one [y] u (by simpa [rowC] using hu)) (by unfold maxLen; omega) (by omega) hbase ?_
  · rw [Addr.add_mid, Nat.zero_add]; rw [hg.cell]; exact hu
  · intro v' w' h1 h2 _
    exact h v' w' (by rw [rowC_append, List.length_append]; simpa [rowC] using h1) h2
/-- the document's flash takes a block in -/
def RPutIs (base r : Nat) (N : Int) (off : Bool) (left : Int) (dn : Bool) (many : Int) (bs : List BlkR) (n : Int) (l : List Nat) (v : Value) (w : World) (e : Ending) (w' : World) : Prop :=
  e = .returned v ∧ ∃ g c, w.heap.size ≤ g ∧ RfAt w' base r N off left dn many (keepL n bs ++ [⟨n, some ⟨g, 0, none⟩, 512, c, l⟩]) ∧ w.grownBy w' (some r)
theorem grown_below' {w w' : World} (h : Below w.heap.size w w') (r : Option Nat) : w.grownBy w' r := grown_below h r
theorem rput_fin {w w4 : World} {base r q c9 cD gD B : Nat} {N left many n : Int} {off dn : Bool} {bs : List BlkR} {aL' a9 : Option Addr} {cL' : Nat} {l : List Nat} {y : BlkR} (hR : RfAt w base r N off left dn many bs)
    (hb : Blk w4 r 46 [.int .i64 N, .slice aL' bs.length cL', .bool off, .int .i64 left, .bool dn, .int .i64 many]) (hl : LOwn w4 base (.slice aL' bs.length cL') bs)
    (hd : w4.ownsRow B 5 1 (.slice (some ⟨gD, 0, none⟩) 512 cD) 512 (bytesV l)) (ho : w4.ownsRow w.heap.size 62 2 (.slice a9 q c9) q (rowC (keepL n bs ++ [y]))) (hq : (keepL n bs ++ [y]).length = q) (hy : y = ⟨n, some ⟨gD, 0, none⟩, 512, cD, l⟩) (hlt : ∀ x ∈ l, x < 256)
    (hB : w.heap.size ≤ B) (hbase : base ≤ w.heap.size) (h0 : 0 ≤ n) (h1 : n < N) (hN : N ≤ 1048576) :
    RfAt ((w4.setCell ⟨r, 1, none⟩ (.slice a9 q c9)).setCell ⟨r, 5, none⟩ (.int .i64 (many + 1))) base r N off left dn (many + 1) (keepL n bs ++ [⟨n, some ⟨gD, 0, none⟩, 512, cD, l⟩]) := by
  have hg : w4.grownBy ((w4.setCell ⟨r, 1, none⟩ (.slice a9 q c9)).setCell ⟨r, 5, none⟩ (.int .i64 (many + 1))) (some r) := grown_trans (grown_setCell w4 ⟨r, 1, none⟩ _) (grown_setCell _ ⟨r, 5, none⟩ _)
  have hb5 := (hb.set 1 (.slice a9 q c9)).set 5 (.int .i64 (many + 1))
  generalize (w4.setCell ⟨r, 1, none⟩ (.slice a9 q c9)).setCell ⟨r, 5, none⟩ (.int .i64 (many + 1)) = w5 at *
  have hf : Fr w4 w5 (fun j => j = r) := Fr.grown hg (fun j e _ => by injection e with e; exact e.symm)
  have hne : ∀ {base e size n' : Nat} {v : Value} {xs : List Value}, w4.ownsRow base e size v n' xs → e ≠ 46 → ∀ j, v.ownBlock = some j → ¬ j = r := fun h he j hj e => by
    obtain ⟨cs, hc, _⟩ := own_blk h hj
    exact blk_ne hc hb he e
  subst hy
  rw [← hq] at ho hb5
  refine ⟨⟨a9, c9, hb5, ⟨own_low (own_fr ho hf (hne ho (by decide))) hbase, fun x hx => ?_⟩⟩, fun x hx => ?_, ?_⟩
  · rcases List.mem_append.1 hx with hx | hx
    · have h2 := hl.2 x (List.mem_filter.1 hx).1
      exact ⟨h2.1.fr hf (hne h2.1.1 (by decide)), h2.2⟩
    · obtain rfl := List.mem_singleton.1 hx
      have h3 := hR.2.1
      refine ⟨⟨own_low (own_fr hd hf (hne hd (by decide))) (by omega), hlt, by show 512 ≤ _; omega⟩, ?_⟩
      show I64 n
      exact ⟨by omega, by omega⟩
  · rcases List.mem_append.1 hx with hx | hx
    · exact hR.2.1 x (List.mem_filter.1 hx).1
    · obtain rfl := List.mem_singleton.1 hx
      exact ⟨rfl, h0, h1⟩
  · rw [List.pairwise_append]
    refine ⟨hR.2.2.filter _, List.pairwise_singleton _ _, fun x hx z hz => ?_⟩
    obtain rfl := List.mem_singleton.1 hz
    have := (List.mem_filter.1 hx).2
    simpa using this
set_option maxHeartbeats 6400000 in
theorem rput_any (base r : Nat) (N left many n : Int) (off dn : Bool) (bs : List BlkR) (A : Option Addr) (cp : Nat) (l : List Nat) (w : World) (h : RfAt w base r N off left dn many bs) (hbin : BIn w A 512 cp l) (hN : N ≤ 1048576) (h0 : 0 ≤ n) (h1 : n < N) (hm0 : 0 ≤ many) (hm1 : many ≤ 4611686018427387904) (hbase : base ≤ w.heap.size) :
    Calls Try.prog 44 #[.pointer (some ⟨r, 0, none⟩), .int .i64 n, .slice A 512 cp] w (RPutIs base r N off left dn (many + 1) bs n l (.tuple #[]) w) := by
  obtain ⟨aL, cL, c0, c1, c2, c3, c4, c5, hin, hmx⟩ := h.cells
  have hfew := few (fun x hx => (h.2.1 x hx).2) h.2.2 hN
  have hrl := h.lt
  have HR := Lib.hid h
  have HIN := Lib.hid hin
  have HBN := Lib.hid hbin
  clear h hin hbin hmx c0 c2 c3 c4
  unfold RPutIs
  go_enter Try.func44, Try.ntmps44
  go_wp2
  go_loopw [6, 7] (fun v6 v7 wr => ∃ (i : Nat) (a6 : Option Addr) (c6 : Nat), v7 = .int .i64 i ∧ i ≤ bs.length ∧ v6 = .slice a6 (keepL n (bs.take i)).length c6 ∧ wr.ownsRow w.heap.size 62 2 (.slice a6 (keepL n (bs.take i)).length c6) (keepL n (bs.take i)).length (rowC (keepL n (bs.take i))) ∧ Below w.heap.size w wr) (fun _ v7 _ => bs.length - (intOf v7).toNat)
  case atStart => exact ⟨0, none, 0, rfl, Nat.zero_le _, rfl, ⟨rfl, .inl ⟨rfl, rfl⟩⟩, Below.refl _ _⟩
  case round =>
    obtain ⟨i, a6, c6, rfl, hi, rfl, ho, hb⟩ := hrel
    have HO := Lib.hid ho
    have HB := Lib.hid hb
    clear ho hb
    have c1w : wr.cell? ⟨r, 1, none⟩ = some (.slice aL bs.length cL) := (HB.out.cell (p := ⟨r, 1, none⟩) hrl).trans c1
    by_cases hlt : i < bs.length
    · have hlti : (i : Int) < (bs.length : Int) := by omega
      obtain ⟨x, hx⟩ : ∃ x, bs[i]? = some x := ⟨_, List.getElem?_eq_getElem hlt⟩
      obtain ⟨b, o, rfl, hcell⟩ := HIN.out.2.2.resolve_left (by omega)
      have hrr := range_gr (hcell i x hx) HB.out
      have k0 : wr.cell? ⟨b, o + i * 2, none⟩ = some (.int .i64 x.N) := range_cell hrr (j := 0) rfl
      have HRR := Lib.hid hrr
      have HKT := Lib.hid (keepL_take n bs i x hx)
      clear hcell hx hrr
      by_cases hne : (x.N != n) = true
      · rw [if_pos hne] at HKT
        have HNW := Lib.hid (Blk.new wr 62 x.cs)
        have ha := (Below.refl wr.heap.size wr).alloc (Nat.le_refl _) (.cells x.cs.toArray 62)
        have HOA := Lib.hid (own_below HO.out ha)
        have HBA := Lib.hid (HB.out.trans (ha.mono HB.out.size))
        have hsz : w.heap.size ≤ (wr.alloc (.cells x.cs.toArray 62)).heap.size := HBA.out.size
        have hlen : (keepL n (bs.take i)).length + 1 ≤ 4398046511104 := by have := keepL_len n bs i; omega
        obtain ⟨ks, hks⟩ : ∃ ks, keepL n (bs.take i) = ks := ⟨_, rfl⟩
        rw [hks] at HO HKT HOA hlen
        try rw [hks]
        clear hks ha
        go_wp2_with (first | (refine ldM rfl 62 (.tmp 33) rfl b (o + i * 2) rfl [.int .i64 x.N, .slice x.a x.n x.c] _ HRR.out Try.underlying62 rfl info62 ?_) | (refine wpList_append_blk rfl (.tmp 27) (.tmp 35) rfl w.heap.size _ ks rfl HOA.out wr.heap.size x rfl HNW.out hlen hsz ?_))
        intro v' w' ho' hg'
        have hlk : ks.length + 1 = (keepL n (bs.take (i + 1))).length := by rw [HKT.out]; simp
        rw [hlk, ← HKT.out] at ho'
        obtain ⟨a7, c7, rfl⟩ : ∃ a7 c7, v' = .slice a7 (keepL n (bs.take (i + 1))).length c7 := by
          rcases ho'.2 with ⟨rfl, h0⟩ | ⟨g, cap, cur, rfl, _⟩
          · exact ⟨none, 0, by rw [h0]⟩
          · exact ⟨_, _, rfl⟩
        have HO' := Lib.hid ho'
        have HB' := Lib.hid (show Below w.heap.size w w' from ⟨hg'.os.trans HBA.out.os, hg'.tape.trans HBA.out.tape, hg'.output.trans HBA.out.output, Nat.le_trans HBA.out.size hg'.size, fun j hj => (hg'.block j (Nat.lt_of_lt_of_le hj HBA.out.size) (fun e => by have := own_ge HOA.out e.symm; omega)).trans (HBA.out.block j hj)⟩)
        clear ho' hg' c1w k0 HNW HOA HBA hsz
        go_wp2_with fail
        go_roundw
        case rel => exact ⟨i + 1, a7, c7, by go_num, by omega, rfl, HO'.out, HB'.out⟩
        case measure => simp [intOf]; omega
      · rw [if_neg hne] at HKT
        have hne2 : (x.N != n) = false := by simpa using hne
        rw [← HKT.out] at HO
        rw [← HKT.out]
        clear hne
        go_wp2_with fail
        go_roundw
        case rel => exact ⟨i + 1, a6, c6, by go_num, by omega, rfl, HO.out, HB.out⟩
        case measure => simp [intOf]; omega
    · have hge : ¬ (i : Int) < (bs.length : Int) := by omega
      obtain rfl : i = bs.length := by omega
      rw [List.take_length] at HO
      rw [List.take_length]
      clear hlt
      have ha := (Below.refl wr.heap.size wr).alloc (Nat.le_refl _) (.cells #[] 5)
      have HBA := Lib.hid (HB.out.trans (ha.mono HB.out.size))
      have HZR := Lib.hid (zero_row wr)
      have HBW := Lib.hid (HBN.out.below HBA.out)
      have HOA := Lib.hid (own_below HO.out ha)
      have hszr := HB.out.size
      have hl : l.length = 512 := HBN.out.1.1
      clear ha
      go_wp2_with (first | (refine wpList_append_bytes _ rfl (.tmp 40) (.tmp 41) rfl wr.heap.size _ 0 [] rfl HZR.out A 512 cp l rfl HBW.out (by omega) (by simp) ?_))
      intro v2 w2 ho2 hg2
      obtain ⟨aD, cD, rfl, hbD, _⟩ := own_in ho2 HBN.out.1.2.2.1 (by omega)
      obtain ⟨gD, rfl⟩ : ∃ gD, aD = some ⟨gD, 0, none⟩ := by
        rcases ho2.2 with ⟨_, h0⟩ | ⟨g, cap, cur, e, _⟩
        · omega
        · injection e with e1; exact ⟨g, e1⟩
      have hgD := ho2.lt gD rfl
      have HD2 := Lib.hid ho2
      have hB2 : Below w.heap.size w w2 := HBA.out.trans (grown_new0 hg2 HB.out.size HBA.out.size)
      have hO2 := own_fr HOA.out (Fr.grown (F := fun j => j = wr.heap.size) hg2 (fun j e _ => by injection e with e; exact e.symm)) (fun j hj e => by have := (HO.out.lt j hj).2; omega)
      obtain ⟨y, hy⟩ : ∃ y : BlkR, y = ⟨n, some ⟨gD, 0, none⟩, 512, cD, l⟩ := ⟨_, rfl⟩
      have hycs : y.cs = [.int .i64 n, .slice (some ⟨gD, 0, none⟩) 512 cD] := by rw [hy]; rfl
      have ha3 := (Below.refl w2.heap.size w2).alloc (Nat.le_refl _) (.cells #[.int .i64 n, .slice (some ⟨gD, 0, none⟩) 512 cD] 62)
      have HY := Lib.hid (show Blk (w2.alloc (.cells #[.int .i64 n, .slice (some ⟨gD, 0, none⟩) 512 cD] 62)) w2.heap.size 62 y.cs from by rw [hycs]; exact Blk.new w2 _ _)
      have HO3 := Lib.hid (own_below hO2 ha3)
      have HB3 := Lib.hid (hB2.trans (ha3.mono hB2.size))
      have hsz3 : w.heap.size ≤ (w2.alloc (.cells #[.int .i64 n, .slice (some ⟨gD, 0, none⟩) 512 cD] 62)).heap.size := HB3.out.size
      have HD3 := Lib.hid (own_below ho2 ha3)
      have hlen : (keepL n bs).length + 1 ≤ 4398046511104 := by have := keepL_len n bs bs.length; rw [List.take_length] at this; omega
      have HYE := Lib.hid hy
      clear ho2 hg2 hbD hO2 hB2 ha3 HBA HZR HBW HOA hycs hy
      go_wp2_with (refine wpList_append_blk rfl (.tmp 38) (.tmp 44) rfl w.heap.size _ (keepL n bs) rfl HO3.out w2.heap.size y rfl HY.out hlen hsz3 ?_)
      intro v4 w4 ho4 hg4
      have hB4 : Below w.heap.size w w4 := ⟨hg4.os.trans HB3.out.os, hg4.tape.trans HB3.out.tape, hg4.output.trans HB3.out.output, Nat.le_trans HB3.out.size hg4.size, fun j hj => (hg4.block j (Nat.lt_of_lt_of_le hj HB3.out.size) (fun e => by have := own_ge HO3.out e.symm; omega)).trans (HB3.out.block j hj)⟩
      have hD4 := own_fr HD3.out (Fr.grown (F := fun j => (Value.slice a6 (keepL n bs).length c6).ownBlock = some j) hg4 (fun j e _ => e)) (fun j hj e => by
        have h1 := Option.some.inj hj
        have h2 := (HO.out.lt j e).2
        have : gD = j := h1
        omega)
      have hR4 := HR.out.below hB4
      obtain ⟨aL', cL', hb4, hl4⟩ := hR4.1
      have k5 : w4.cell? ⟨r, 5, none⟩ = some (.int .i64 many) := hb4.cell 5
      have k1 : w4.cell? ⟨r, 1, none⟩ = some (.slice aL' bs.length cL') := hb4.cell 1
      have f1 := hb4.free 1
      have f5 := hb4.free 5
      obtain ⟨a9, c9, e9⟩ : ∃ a9 c9, v4 = .slice a9 (keepL n bs ++ [y]).length c9 := by
        rcases ho4.2 with ⟨e1, h0⟩ | ⟨g, cap, cur, e1, _⟩
        · exact absurd h0 (by simp)
        · exact ⟨some ⟨g, 0, none⟩, cap, by rw [e1]; simp⟩
      subst e9
      have HO4 := Lib.hid (show w4.ownsRow w.heap.size 62 2 (.slice a9 (keepL n bs ++ [y]).length c9) (keepL n bs ++ [y]).length (rowC (keepL n bs ++ [y])) from by simpa using ho4)
      have HBL4 := Lib.hid hb4
      have HL4 := Lib.hid hl4
      have HD4 := Lib.hid hD4
      have HB4 := Lib.hid hB4
      obtain ⟨q, hq⟩ : ∃ q, (keepL n bs ++ [y]).length = q := ⟨_, rfl⟩
      rw [hq] at HO4
      try rw [hq]
      have HQ := Lib.hid hq
      clear ho4 hg4 hB4 hD4 hb4 hl4 hR4 HY HO3 HB3 HD3 hsz3 c1w hq
      go_wp2_with fail
      have hfin := rput_fin HR.out HBL4.out HL4.out HD4.out HO4.out HQ.out HYE.out HBN.out.1.2.2.1 hszr hbase h0 h1 hN
      have HF := Lib.hid hfin
      have HG := Lib.hid (show w.grownBy ((w4.setCell ⟨r, 1, none⟩ (.slice a9 q c9)).setCell ⟨r, 5, none⟩ (.int .i64 (many + 1))) (some r) from grown_trans (grown_trans (grown_below' HB4.out _) (grown_setCell w4 ⟨r, 1, none⟩ _)) (grown_setCell _ ⟨r, 5, none⟩ _))
      clear hfin
      refine ⟨rfl, .tuple #[], ?_, rfl, gD, cD, by omega, HF.out, HG.out⟩
      simp [results, Try.results44]
end Go.Proofs.Ytlgpaglkhgomiaa
