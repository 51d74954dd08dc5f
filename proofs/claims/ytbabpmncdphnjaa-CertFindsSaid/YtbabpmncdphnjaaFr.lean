/- What each statement's frame asks of the program as a whole, and how slices of bytes that came in are told to the walks. No condition. -/
import Derived.Test.YtbabpmncdphnjaaRows
import Derived.Test.YtbabpmncdphnjaaMt
import Derived.OpenShut
import Derived.ShutString
import Derived.ChangeOld
import Derived.Below
import Derived.SizedLaws
namespace Go.Proofs.Ytbabpmncdphnjaa
open Go.ChangeShapes Go.WideShapes Go.ChangeAt Go.RowKit
set_option linter.unusedVariables false
set_option maxRecDepth 100000
set_option linter.unusedSimpArgs false

theorem own : ownKnob Try.prog.godebug = none := by kernel_rfl

theorem laidOut : laidOutB Try.prog = true := by kernel_rfl

theorem u8_bounds {n : Int} (h : (Lit.int .u8 n).wf = true) : 0 ≤ n ∧ n < 256 := by
  have := bounds_u8 h; omega

theorem u32_bounds {n : Int} (h : (Lit.int .u32 n).wf = true) : 0 ≤ n ∧ n < 4294967296 := by
  have := bounds_u32 h; omega

/-- A slice of bytes that came in leads to bytes. -/
theorem byteRow_in {H : Type} {enc : TypeId × Value → H} {W : World} {a : Option Addr} {len cap fuel : Nat} {x : DataW H × List MemPlace}
    (h : DataW.trod enc Try.prog W 0 (fun _ => true) true fuel 22 [Value.slice a len cap] = some x) : ∃ l, ByteRow W a len l := by
  rcases open_ints Try.underlying22 Try.underlying5 (by kernel_rfl) h with ⟨hcs, _⟩ | ⟨y, l, c, zs, hcs, _, hl, hm, hz, _, hcell, hwz⟩
  · simp only [List.cons.injEq, Value.slice.injEq, and_true] at hcs
    obtain ⟨rfl, rfl, rfl⟩ := hcs
    exact ⟨[], rfl, Nat.zero_le _, by simp, .inl rfl⟩
  · simp only [List.cons.injEq, Value.slice.injEq, and_true] at hcs
    obtain ⟨rfl, rfl, rfl⟩ := hcs
    simp only [if_true] at hz
    refine ⟨(zs.take len).map Int.toNat, by simp; omega, by omega, ?_, ?_⟩
    · intro n hn
      obtain ⟨z, hz1, rfl⟩ := List.mem_map.1 hn
      have := u8_bounds (hwz z (List.mem_of_mem_take hz1))
      omega
    · by_cases h0 : len = 0
      · exact .inl h0
      right
      obtain ⟨b, off, spot⟩ := y
      have hs := World.cell?_spot (hcell 0 (by omega))
      simp only [Addr.add] at hs
      subst hs
      refine ⟨b, off, rfl, fun i hi => ?_⟩
      have hc := hcell i (by omega)
      have ha : (Addr.mk b off none).add i = Addr.mk b (off + i) none := by
        simp only [Addr.add]; split
        · rename_i h; subst h; rfl
        · rfl
      rw [ha] at hc
      rw [hc]
      have hzi : zs.getD i 0 ∈ zs := by
        rw [List.getD_eq_getElem?_getD, List.getElem?_eq_getElem (by omega)]; exact List.getElem_mem _
      have hb := u8_bounds (hwz _ hzi)
      have e : ((zs.take len).map Int.toNat).getD i 0 = (zs.getD i 0).toNat := by
        simp only [List.getD_eq_getElem?_getD, List.getElem?_map, List.getElem?_take]
        rw [if_pos hi, List.getElem?_eq_getElem (by omega)]; rfl
      rw [e, Int.toNat_of_nonneg hb.1]

theorem bytes5 : Try.prog.bytesOf 5 = 1 := by kernel_rfl

theorem bin_in {H : Type} {enc : TypeId × Value → H} {W : World} {v : Value} {fuel : Nat} {x : DataW H × List MemPlace}
    (h : DataW.trod enc Try.prog W 0 (fun _ => true) true fuel 22 [v] = some x) (hr : ∀ k ∈ DataW.weights Try.prog 22 x.1, k ≤ reachBytes) :
    ∃ a n c l, v = .slice a n c ∧ BIn W a n c l ∧ n ≤ 140737488351232 := by
  rcases open_ints Try.underlying22 Try.underlying5 (by kernel_rfl) h with ⟨hcs, _⟩ | ⟨y, n, c, zs, hcs, _, hl, hm, hz, hx, hcell, hwz⟩
  · simp only [List.cons.injEq, and_true] at hcs
    subst hcs
    exact ⟨none, 0, 0, [], rfl, ⟨⟨rfl, Nat.zero_le _, by simp, .inl rfl⟩, Nat.le_refl _, Nat.zero_le _, by omega, fun _ => rfl⟩, by omega⟩
  · simp only [List.cons.injEq, and_true] at hcs
    subst hcs
    obtain ⟨l, hrow⟩ := byteRow_in h
    simp only [if_true] at hz
    have hb : c ≤ 140737488351232 := by
      have := hr (zs.length * 1) (by
        rw [hx]
        simp only [DataW.weights, Try.underlying22, bytes5]
        refine List.mem_cons.2 (.inl ?_)
        simp [lits]
        omega)
      rw [hz] at this
      simp only [reachBytes] at this
      omega
    exact ⟨some y, n, c, l, rfl, ⟨hrow, hl, hm, by omega, fun h => by cases h⟩, by omega⟩

theorem bulk_one {H : Type} (d : DataW H) : 1 ≤ Rows.uptoBulk d := by
  cases d with
  | lit l => cases l <;> simp [Rows.uptoBulk]
  | nil => simp [Rows.uptoBulk]
  | ptr d => simp [Rows.uptoBulk]
  | slice elems spare => simp [Rows.uptoBulk]
  | agg parts => simp [Rows.uptoBulk]
  | iface t d => simp [Rows.uptoBulk]
  | map entries => simp [Rows.uptoBulk]
  | held h => simp [Rows.uptoBulk]

theorem bulk_length {H : Type} (l : List (DataW H)) : l.length ≤ Rows.uptoBulkAll l := by
  induction l with
  | nil => simp [Rows.uptoBulkAll]
  | cons x r ih => have := bulk_one x; simp only [Rows.uptoBulkAll, List.length_cons]; omega

theorem bin_bulk {H : Type} {enc : TypeId × Value → H} {W : World} {v : Value} {fuel : Nat} {x : DataW H × List MemPlace}
    (h : DataW.trod enc Try.prog W 0 (fun _ => true) true fuel 22 [v] = some x) (hr : Rows.uptoBulk x.1 ≤ 1048576) :
    ∃ a n c l, v = .slice a n c ∧ BIn W a n c l ∧ n ≤ Rows.uptoBulk x.1 := by
  rcases open_ints Try.underlying22 Try.underlying5 (by kernel_rfl) h with ⟨hcs, _⟩ | ⟨y, n, c, zs, hcs, _, hl, hm, hz, hx, hcell, hwz⟩
  · simp only [List.cons.injEq, and_true] at hcs
    subst hcs
    exact ⟨none, 0, 0, [], rfl, ⟨⟨rfl, Nat.zero_le _, by simp, .inl rfl⟩, Nat.le_refl _, Nat.zero_le _, by omega, fun _ => rfl⟩, by omega⟩
  · simp only [List.cons.injEq, and_true] at hcs
    subst hcs
    obtain ⟨l, hrow⟩ := byteRow_in h
    simp only [if_true] at hz
    have hb : n ≤ Rows.uptoBulk x.1 := by
      rw [hx]
      simp only [Rows.uptoBulk]
      have h1 := bulk_length (lits (H := H) .u8 (zs.take n))
      have h2 : (lits (H := H) .u8 (zs.take n)).length = n := by simp [lits]; omega
      omega
    exact ⟨some y, n, c, l, rfl, ⟨hrow, hl, hm, by omega, fun h => by cases h⟩, hb⟩

theorem wall_mem {H : Type} {P : Program} {e : TypeId} : ∀ {l : List (DataW H)} {d : DataW H}, d ∈ l → ∀ n ∈ d.weights P e, n ∈ DataW.weightsAll P e l
  | x :: r, d, hd, n, hn => by
    simp only [DataW.weightsAll, List.mem_append]
    rcases List.mem_cons.1 hd with rfl | hd
    · exact .inl hn
    · exact .inr (wall_mem hd n hn)
/-- one item lies there -/
def OneAt (w : World) (B o : Nat) : Prop := ∃ t a c a' c' b k, w.rangeAt B o [.int .u8 (t : Nat), .slice a b.length c, .slice a' k.len c'] ∧ ItIn w t a c a' c' b k ∧ k.low 140737488355328 ∧ b.length ≤ 140737488351232
theorem row_of {w : World} {B : Nat} : ∀ (n o : Nat), (∀ i, i < n → OneAt w B (o + i * 3)) → ∃ T : Tr, T.len = n ∧ Row w T B o ∧ T.low 140737488355328
  | 0, _, _ => ⟨.nil, rfl, trivial, trivial⟩
  | n + 1, o, h => by
    obtain ⟨t, a, c, a', c', b, k, hr, hi, hl, hb⟩ := h 0 (by omega)
    obtain ⟨T, hT, hR, hL⟩ := row_of n (o + 3) (fun i hi => by
      have := h (i + 1) (by omega)
      rwa [show o + (i + 1) * 3 = o + 3 + i * 3 by omega] at this)
    rw [Nat.zero_mul, Nat.add_zero] at hr
    exact ⟨.node t b k T, by simp [Tr.len, hT], Row.node hr hi hR, by omega, hl, hL⟩
theorem bytes25 : Try.prog.bytesOf 25 = 56 := by kernel_rfl
theorem cells25 : Try.prog.cellsOf 25 = 3 := by kernel_rfl
theorem cells5 : Try.prog.cellsOf 5 = 1 := by kernel_rfl
theorem cells22 : Try.prog.cellsOf 22 = 1 := by kernel_rfl
theorem cells23 : Try.prog.cellsOf 23 = 1 := by kernel_rfl
/-- three cells that were read as an item lead to one -/
theorem cells_item {H : Type} {enc : TypeId × Value → H} {W : World} : ∀ (fuel : Nat) (cs : List Value) (x : DataW H × List MemPlace),
    DataW.trod enc Try.prog W 0 (fun _ => true) true fuel 25 cs = some x → (∀ k ∈ DataW.weights Try.prog 25 x.1, k ≤ reachBytes) →
    ∃ t a c a' c' b k, cs = [.int .u8 (t : Nat), .slice a b.length c, .slice a' k.len c'] ∧ ItIn W t a c a' c' b k ∧ k.low 140737488355328 ∧ b.length ≤ 140737488351232 := by
  intro fuel
  induction fuel using Nat.strongRecOn with
  | _ fuel ih =>
    intro cs x h hw
    obtain ⟨xs, m, rfl, rfl, hl, hlen, hf⟩ := DataW.trod_struct Try.underlying25 h
    rw [cells25] at hl
    match xs, hlen, cs, hl with
    | [y0, y1, y2], _, [v0, v1, v2], _ =>
      have g0 := hf 0 _ rfl
      have g1 := hf 1 _ rfl
      have g2 := hf 2 _ rfl
      simp [cells5, cells22, cells23] at g0 g1 g2
      have hw1 : ∀ k ∈ DataW.weights Try.prog 22 y1.1, k ≤ reachBytes := fun k hk => hw k (by
        simp only [DataW.weights, Try.underlying25]
        exact DataW.weights_mem_each (j := 1) rfl rfl k hk)
      have hw2 : ∀ k ∈ DataW.weights Try.prog 23 y2.1, k ≤ reachBytes := fun k hk => hw k (by
        simp only [DataW.weights, Try.underlying25]
        exact DataW.weights_mem_each (j := 2) rfl rfl k hk)
      obtain ⟨t, hv, _, ht⟩ := DataW.trod_int Try.underlying5 g0
      simp at hv
      subst hv
      have bt := u8_bounds ht
      obtain ⟨t, rfl⟩ := Int.eq_ofNat_of_zero_le bt.1
      obtain ⟨a, n, c, b, rfl, hb, hbn⟩ := bin_in g1 hw1
      have hbl : b.length = n := hb.1.1
      subst hbl
      rcases DataW.trod_slice Try.underlying23 g2 with ⟨h2, _⟩ | ⟨ad, len, cap, elems, rest, n, hm, h2, hx, _, hlc, hcm, hel, hall, _, _⟩
      · simp at h2
        subst h2
        exact ⟨t, a, c, none, 0, b, .nil, rfl, ⟨by omega, hb, KIn.nil W⟩, trivial, hbn⟩
      · simp at h2
        subst h2
        have hlen : len ≤ 140737488351232 := by
          have := hw2 ((elems.length + rest.length) * 56) (by
            rw [hx]
            simp only [DataW.weights, Try.underlying23, bytes25, List.length_map]
            exact List.mem_cons_self ..)
          simp only [reachBytes] at this
          omega
        have hwe : ∀ d ∈ elems, ∀ k ∈ DataW.weights Try.prog 25 d.1, k ≤ reachBytes := fun d hd k hk => hw2 k (by
          rw [hx]
          simp only [DataW.weights, Try.underlying23]
          exact List.mem_cons_of_mem _ (List.mem_append_left _ (wall_mem (List.mem_map_of_mem hd) k hk)))
        obtain ⟨B, o, spot⟩ := ad
        have each : ∀ i, i < len → (i = 0 → spot = none) ∧ (spot = none → OneAt W B (o + i * 3)) := by
          intro i hi
          have h3 := hall i hi
          rw [List.getElem?_eq_getElem (by omega), cells25] at h3
          cases hcs : W.cells? 0 ((⟨B, o, spot⟩ : Addr).add (i * 3)) 3 with
          | none => rw [hcs] at h3; cases h3
          | some cs' =>
            rw [hcs] at h3
            have h4 : DataW.trod enc Try.prog W 0 (fun _ => true) true n 25 cs' = some (elems[i]'(by omega)) := h3
            obtain ⟨_, hcl, hcc⟩ := World.cells?_some hcs
            obtain ⟨t1, a1, c1, a1', c1', b1, k1, rfl, hi1, hl1, hb1⟩ := ih n (by omega) cs' _ h4 (hwe _ (List.getElem_mem _))
            have hs0 := World.cell?_spot (hcc 0 (by omega))
            refine ⟨fun h0 => ?_, fun hsp => ?_⟩
            · subst h0
              rw [Nat.zero_mul] at hs0
              exact hs0
            subst hsp
            refine ⟨t1, a1, c1, a1', c1', b1, k1, ?_, hi1, hl1, hb1⟩
            intro j v hv
            have hj : j < 3 := (List.getElem?_eq_some_iff.1 hv).1
            have := hcc j hj
            rw [Addr.add_mid, Addr.add_mid, hv] at this
            exact this
        by_cases h0 : len = 0
        · subst h0
          exact ⟨t, a, c, _, cap, b, .nil, rfl, ⟨by omega, hb, ⟨Nat.zero_le _, Nat.zero_le _, fun h => by cases h⟩, .inl rfl⟩, trivial, hbn⟩
        · obtain rfl := (each 0 (by omega)).1 rfl
          obtain ⟨T, hT, hR, hL⟩ := row_of len o (fun i hi => (each i hi).2 rfl)
          subst hT
          exact ⟨t, a, c, _, cap, b, T, rfl, ⟨by omega, hb, ⟨hlc, by omega, fun h => by cases h⟩, .inr ⟨B, o, rfl, hR⟩⟩, hL, hbn⟩
/-- an item that came in -/
theorem item_in {H : Type} {enc : TypeId × Value → H} {W : World} {base : Nat} {v : Value} {d : DataW H} {p : List MemPlace} (hv : Value.okWide Try.prog W .any base 25 v)
    (h : DataW.Trod enc Try.prog W 0 (fun _ => true) true 25 v d p) (hw : ∀ k ∈ DataW.weights Try.prog 25 d, k ≤ reachBytes) :
    ∃ t a c a' c' b k, v = itV t a b.length c a' k.len c' ∧ ItIn W t a c a' c' b k ∧ k.low 140737488355328 ∧ b.length ≤ 140737488351232 := by
  have hv' : ∃ cs, v = .agg cs := by
    have := hv
    simp only [Value.okWide, Try.underlying25] at this
    obtain ⟨cs, h, _⟩ := this
    exact ⟨cs, h⟩
  obtain ⟨cs, rfl⟩ := hv'
  obtain ⟨fuel, hf⟩ := h
  obtain ⟨t, a, c, a', c', b, k, hcs, hi, hl, hb⟩ := cells_item fuel _ _ hf hw
  refine ⟨t, a, c, a', c', b, k, ?_, hi, hl, hb⟩
  have : cs.toList = [.int .u8 (t : Nat), .slice a b.length c, .slice a' k.len c'] := hcs
  exact congrArg Value.agg (by rw [← Array.toArray_toList (xs := cs), this])
end Go.Proofs.Ytbabpmncdphnjaa
