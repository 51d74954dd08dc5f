/- Lists of structs that came in: ops, blocks. No condition. -/
import Derived.Test.YtlgpaglkhgomiaaFm
import Derived.Test.YtlgpaglkhgomiaaCw
import Derived.Deep.Slices
import Derived.Deep.Strs
namespace Go.Proofs.Ytlgpaglkhgomiaa
open Go.Deep Go.ChangeShapes Go.WideShapes Go.ChangeAt Go.RowKit
set_option linter.unusedVariables false
set_option maxRecDepth 100000
set_option linter.unusedSimpArgs false
theorem wall_mem {H : Type} {P : Program} {e : TypeId} : ∀ {l : List (DataW H)} {d : DataW H}, d ∈ l → ∀ n ∈ d.weights P e, n ∈ DataW.weightsAll P e l
  | x :: r, d, hd, n, hn => by
    simp only [DataW.weightsAll, List.mem_append]
    rcases List.mem_cons.1 hd with rfl | hd
    · exact .inl hn
    · exact .inr (wall_mem hd n hn)
/-- a list whose members each read -/
theorem list_in {H : Type} {enc : TypeId × Value → H} {W : World} {α : Type} [Inhabited α] (s e : TypeId) (hu : Try.prog.underlying s = some (.slice e)) (k by' : Nat) (hc : Try.prog.cellsOf e = k) (hb : Try.prog.bytesOf e = by') (hb1 : 1 ≤ by') (hk : 0 < k) (cs : α → List Value) (P : α → Prop) (hlen : ∀ x, (cs x).length = k)
    (one : ∀ (fuel : Nat) (v : List Value) (x : DataW H × List MemPlace), DataW.trod enc Try.prog W 0 (fun _ => true) true fuel e v = some x → (∀ n ∈ DataW.weights Try.prog e x.1, n ≤ reachBytes) → ∃ y, v = cs y ∧ P y)
    {v : Value} {fuel : Nat} {x : DataW H × List MemPlace} (h : DataW.trod enc Try.prog W 0 (fun _ => true) true fuel s [v] = some x) (hr : ∀ n ∈ DataW.weights Try.prog s x.1, n ≤ reachBytes) :
    ∃ (a : Option Addr) (n c : Nat) (ys : List α), v = .slice a n c ∧ ys.length = n ∧ (∀ y ∈ ys, P y) ∧ (n = 0 ∨ ∃ b off, a = some ⟨b, off, none⟩ ∧ ∀ i y, ys[i]? = some y → W.rangeAt b (off + i * k) (cs y)) ∧ n ≤ 140737488351232 := by
  rcases DataW.trod_slice hu h with ⟨h2, _⟩ | ⟨ad, len, cap, elems, rest, n, hm, h2, hx, _, hlc, hcm, hel, hall, _, _⟩
  · simp at h2
    subst h2
    exact ⟨none, 0, 0, [], rfl, rfl, by simp, .inl rfl, by omega⟩
  · simp at h2
    subst h2
    have hle : len ≤ 140737488351232 := by
      have := hr ((elems.length + rest.length) * by') (by
        rw [hx]
        simp only [DataW.weights, hu, hb, List.length_map]
        exact List.mem_cons_self ..)
      simp only [reachBytes] at this
      have h3 : elems.length + rest.length ≤ (elems.length + rest.length) * by' := Nat.le_mul_of_pos_right _ hb1
      omega
    have hwe : ∀ d ∈ elems, ∀ n ∈ DataW.weights Try.prog e d.1, n ≤ reachBytes := fun d hd n hn => hr n (by
      rw [hx]
      simp only [DataW.weights, hu]
      exact List.mem_cons_of_mem _ (List.mem_append_left _ (wall_mem (List.mem_map_of_mem hd) n hn)))
    obtain ⟨B, o, spot⟩ := ad
    obtain ⟨G, hG⟩ := choose_lt (α := α) (n := len) (p := fun i g => (i = 0 → spot = none) ∧ (spot = none → W.rangeAt B (o + i * k) (cs g)) ∧ P g) (fun i hi => by
      have h3 := hall i hi
      rw [List.getElem?_eq_getElem (by omega), hc] at h3
      cases hcs : W.cells? 0 ((⟨B, o, spot⟩ : Addr).add (i * k)) k with
      | none => rw [hcs] at h3; cases h3
      | some cs' =>
        rw [hcs] at h3
        have h4 : DataW.trod enc Try.prog W 0 (fun _ => true) true n e cs' = some (elems[i]'(by omega)) := h3
        obtain ⟨_, hcl, hcc⟩ := World.cells?_some hcs
        obtain ⟨y, rfl, hP⟩ := one n cs' _ h4 (hwe _ (List.getElem_mem _))
        have e0 : (cs y)[0]? = some ((cs y)[0]'(by rw [hlen]; exact hk)) := List.getElem?_eq_getElem _
        have hs0 := World.cell?_spot ((hcc 0 (by omega)).trans e0)
        refine ⟨y, fun h0 => ?_, fun hsp => ?_, hP⟩
        · subst h0
          rw [Nat.zero_mul] at hs0
          exact hs0
        subst hsp
        intro j u hj
        have hjl : j < k := by have := (List.getElem?_eq_some_iff.1 hj).1; rwa [hlen] at this
        have := hcc j hjl
        rw [Addr.add_mid, Addr.add_mid, hj] at this
        exact this)
    refine ⟨_, len, cap, (List.range len).map G, rfl, by simp, ?_, ?_, hle⟩
    · intro y hy
      obtain ⟨i, hi, rfl⟩ := List.mem_map.1 hy
      exact (hG i (List.mem_range.1 hi)).2.2
    · by_cases h0 : len = 0
      · exact .inl h0
      · obtain rfl := (hG 0 (by omega)).1 rfl
        refine .inr ⟨B, o, rfl, fun i y hy => ?_⟩
        have hi : i < len := by
          have := (List.getElem?_eq_some_iff.1 hy).1
          simpa using this
        have hyG : y = G i := by
          rw [List.getElem?_map, List.getElem?_range hi] at hy
          simpa using hy.symm
        subst hyG
        exact (hG i hi).2.1 rfl
instance : Inhabited OpR := ⟨⟨0, 0, 0, none, 0, 0, [], false, false, 0, 0⟩⟩
instance : Inhabited BlkR := ⟨⟨0, none, 0, 0, []⟩⟩
theorem cells44 : Try.prog.cellsOf 44 = 8 := by kernel_rfl
theorem bytes44 : Try.prog.bytesOf 44 = 72 := by kernel_rfl
theorem cells62 : Try.prog.cellsOf 62 = 2 := by kernel_rfl
theorem bytes62 : Try.prog.bytesOf 62 = 32 := by kernel_rfl
theorem cellsI : Try.prog.cellsOf 3 = 1 := by kernel_rfl
theorem cellsB : Try.prog.cellsOf 4 = 1 := by kernel_rfl
theorem cellsU : Try.prog.cellsOf 42 = 1 := by kernel_rfl
theorem cellsL : Try.prog.cellsOf 41 = 1 := by kernel_rfl
theorem u64_bounds {n : Int} (h : (Lit.int .u64 n).wf = true) : 0 ≤ n ∧ n < 18446744073709551616 := by
  simp [Lit.wf, IntKind.min, IntKind.max, IntKind.signed, IntKind.bits] at h
  omega
theorem op_cells {H : Type} {enc : TypeId × Value → H} {W : World} (fuel : Nat) (cs : List Value) (x : DataW H × List MemPlace)
    (h : DataW.trod enc Try.prog W 0 (fun _ => true) true fuel 44 cs = some x) (hw : ∀ k ∈ DataW.weights Try.prog 44 x.1, k ≤ reachBytes) : ∃ y : OpR, cs = y.cs ∧ y.fit W := by
  obtain ⟨xs, m, rfl, rfl, hl, hlen, hf⟩ := DataW.trod_struct Try.underlying44 h
  rw [cells44] at hl
  match xs, hlen, cs, hl with
  | [y0, y1, y2, y3, y4, y5, y6, y7], _, [v0, v1, v2, v3, v4, v5, v6, v7], _ =>
    have g0 := hf 0 _ rfl
    have g1 := hf 1 _ rfl
    have g2 := hf 2 _ rfl
    have g3 := hf 3 _ rfl
    have g4 := hf 4 _ rfl
    have g5 := hf 5 _ rfl
    have g6 := hf 6 _ rfl
    have g7 := hf 7 _ rfl
    simp [cellsI, cellsB, cellsU, cellsL] at g0 g1 g2 g3 g4 g5 g6 g7
    have hw3 : ∀ k ∈ DataW.weights Try.prog 41 y3.1, k ≤ reachBytes := fun k hk => hw k (by
      simp only [DataW.weights, Try.underlying44]
      exact DataW.weights_mem_each (j := 3) rfl rfl k hk)
    obtain ⟨z0, hv0, _, hz0⟩ := DataW.trod_int Try.underlying3 g0
    obtain ⟨z1, hv1, _, hz1⟩ := DataW.trod_int Try.underlying3 g1
    obtain ⟨z2, hv2, _, hz2⟩ := DataW.trod_int Try.underlying3 g2
    obtain ⟨b4, hv4, _⟩ := DataW.trod_bool Try.underlying4 g4
    obtain ⟨b5, hv5, _⟩ := DataW.trod_bool Try.underlying4 g5
    obtain ⟨z6, hv6, _, hz6⟩ := DataW.trod_int Try.underlying42 g6
    obtain ⟨z7, hv7, _, hz7⟩ := DataW.trod_int Try.underlying42 g7
    obtain ⟨a, n, c, l, rfl, hl2, _⟩ := bin_in g3 hw3
    have q6 := u64_bounds hz6
    have q7 := u64_bounds hz7
    obtain ⟨z6, rfl⟩ := Int.eq_ofNat_of_zero_le q6.1
    obtain ⟨z7, rfl⟩ := Int.eq_ofNat_of_zero_le q7.1
    simp at hv0 hv1 hv2 hv4 hv5 hv6 hv7
    subst hv0 hv1 hv2 hv4 hv5 hv6 hv7
    exact ⟨⟨z0, z1, z2, a, n, c, l, b4, b5, z6, z7⟩, rfl, hl2, bounds_i64 hz0, bounds_i64 hz1, bounds_i64 hz2, by show z6 < 18446744073709551616; omega, by show z7 < 18446744073709551616; omega⟩
theorem block_cells {H : Type} {enc : TypeId × Value → H} {W : World} (fuel : Nat) (cs : List Value) (x : DataW H × List MemPlace)
    (h : DataW.trod enc Try.prog W 0 (fun _ => true) true fuel 62 cs = some x) (hw : ∀ k ∈ DataW.weights Try.prog 62 x.1, k ≤ reachBytes) : ∃ y : BlkR, cs = y.cs ∧ (BIn W y.a y.n y.c y.l ∧ I64 y.N) := by
  obtain ⟨xs, m, rfl, rfl, hl, hlen, hf⟩ := DataW.trod_struct Try.underlying62 h
  rw [cells62] at hl
  match xs, hlen, cs, hl with
  | [y0, y1], _, [v0, v1], _ =>
    have g0 := hf 0 _ rfl
    have g1 := hf 1 _ rfl
    simp [cellsI, cellsL] at g0 g1
    have hw1 : ∀ k ∈ DataW.weights Try.prog 41 y1.1, k ≤ reachBytes := fun k hk => hw k (by
      simp only [DataW.weights, Try.underlying62]
      exact DataW.weights_mem_each (j := 1) rfl rfl k hk)
    obtain ⟨z0, hv0, _, hz0⟩ := DataW.trod_int Try.underlying3 g0
    obtain ⟨a, n, c, l, rfl, hl2, _⟩ := bin_in g1 hw1
    simp at hv0
    subst hv0
    exact ⟨⟨z0, a, n, c, l⟩, rfl, hl2, bounds_i64 hz0⟩
theorem ops_in {H : Type} {enc : TypeId × Value → H} {W : World} {v : Value} {fuel : Nat} {x : DataW H × List MemPlace}
    (h : DataW.trod enc Try.prog W 0 (fun _ => true) true fuel 25 [v] = some x) (hr : ∀ n ∈ DataW.weights Try.prog 25 x.1, n ≤ reachBytes) :
    ∃ a n c os, v = .slice a n c ∧ OIn W a n os ∧ n ≤ 140737488351232 := by
  obtain ⟨a, n, c, ys, h1, h2, h3, h4, h5⟩ := list_in 25 44 Try.underlying25 8 72 cells44 bytes44 (by omega) (by omega) OpR.cs (OpR.fit W) (fun _ => rfl) op_cells h hr
  exact ⟨a, n, c, ys, h1, ⟨h2, h3, h4⟩, h5⟩
theorem blocks_in {H : Type} {enc : TypeId × Value → H} {W : World} {v : Value} {fuel : Nat} {x : DataW H × List MemPlace}
    (h : DataW.trod enc Try.prog W 0 (fun _ => true) true fuel 22 [v] = some x) (hr : ∀ n ∈ DataW.weights Try.prog 22 x.1, n ≤ reachBytes) :
    ∃ a n c bs, v = .slice a n c ∧ LIn W a n bs ∧ n ≤ 140737488351232 := by
  obtain ⟨a, n, c, ys, h1, h2, h3, h4, h5⟩ := list_in 22 62 Try.underlying22 2 32 cells62 bytes62 (by omega) (by omega) BlkR.cs (fun y => BIn W y.a y.n y.c y.l ∧ I64 y.N) (fun _ => rfl) block_cells h hr
  exact ⟨a, n, c, ys, h1, ⟨h2, h3, h4⟩, h5⟩
end Go.Proofs.Ytlgpaglkhgomiaa
