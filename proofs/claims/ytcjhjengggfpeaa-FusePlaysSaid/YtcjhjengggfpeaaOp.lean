/- Scripts that came in. No condition. -/
import Derived.Test.YtcjhjengggfpeaaFm
import Derived.Test.YtcjhjengggfpeaaFb
import Derived.Deep.Slices
import Derived.Deep.Strs
namespace Go.Proofs.Ytcjhjengggfpeaa
open Go.Deep Go.ChangeShapes Go.WideShapes Go.ChangeAt Go.RowKit
set_option linter.unusedVariables false
set_option maxRecDepth 100000
set_option linter.unusedSimpArgs false
/-- a step of a script -/
structure OpR where
  kd : Int
  i : Int
  n : Int
  v : Nat
  c : Nat
def OpR.cs (x : OpR) : List Value := [.int .i64 x.kd, .int .i64 x.i, .int .i64 x.n, .int .u8 (x.v : Nat), .int .u32 (x.c : Nat)]
def OpR.fit (x : OpR) : Prop := I64 x.kd ∧ I64 x.i ∧ I64 x.n ∧ x.v < 256 ∧ x.c < 4294967296
/-- the steps that came in -/
def OIn (w : World) (P : Option Addr) (np : Nat) (os : List OpR) : Prop :=
  os.length = np ∧ (∀ x ∈ os, x.fit) ∧ (np = 0 ∨ ∃ b off, P = some ⟨b, off, none⟩ ∧ ∀ i x, os[i]? = some x → w.rangeAt b (off + i * 5) x.cs)
theorem wall_mem {H : Type} {P : Program} {e : TypeId} : ∀ {l : List (DataW H)} {d : DataW H}, d ∈ l → ∀ n ∈ d.weights P e, n ∈ DataW.weightsAll P e l
  | x :: r, d, hd, n, hn => by
    simp only [DataW.weightsAll, List.mem_append]
    rcases List.mem_cons.1 hd with rfl | hd
    · exact .inl hn
    · exact .inr (wall_mem hd n hn)
/-- a list whose members each read -/
theorem list_in {H : Type} {enc : TypeId × Value → H} {W : World} {α : Type} [Inhabited α] (s e : TypeId) (hu : Try.prog.underlying s = some (.slice e)) (k by' : Nat) (hc : Try.prog.cellsOf e = k) (hb : Try.prog.bytesOf e = by') (hb1 : 1 ≤ by') (hk : 0 < k) (cs : α → List Value) (P : α → Prop) (hlen : ∀ x, (cs x).length = k)
    (one : ∀ (fuel : Nat) (v : List Value) (x : DataW H × List MemPlace), DataW.trod enc Try.prog W 0 (fun _ => true) true fuel e v = some x → (∀ n ∈ DataW.weights Try.prog e x.1, n ≤ reachBytes) → ∃ y, v = cs y ∧ P y)
    {v : Value} {fuel : Nat} {x : DataW H × List MemPlace} (h : DataW.trod enc Try.prog W 0 (fun _ => true) true fuel s [v] = some x) (hr : ∀ n ∈ DataW.weights Try.prog s x.1, n ≤ reachBytes) :
    ∃ (a : Option Addr) (n c : Nat) (ys : List α), v = .slice a n c ∧ ys.length = n ∧ (∀ y ∈ ys, P y) ∧ (n = 0 ∨ ∃ b off, a = some ⟨b, off, none⟩ ∧ ∀ i y, ys[i]? = some y → W.rangeAt b (off + i * k) (cs y)) ∧ n ≤ 140737488351232 := by
  rcases DataW.trod_slice hu h with ⟨h2, _⟩ | ⟨ad, len, cap, elems, rest, n, hm, h2, hx, _, hlc, hcm, hel, hall, _, _⟩
  · simp at h2
    subst h2
    exact ⟨none, 0, 0, [], rfl, rfl, by simp, .inl rfl, by omega⟩
  · simp at h2
    subst h2
    have hle : len ≤ 140737488351232 := by
      have := hr ((elems.length + rest.length) * by') (by
        rw [hx]
        simp only [DataW.weights, hu, hb, List.length_map]
        exact List.mem_cons_self ..)
      simp only [reachBytes] at this
      have h3 : elems.length + rest.length ≤ (elems.length + rest.length) * by' := Nat.le_mul_of_pos_right _ hb1
      omega
    have hwe : ∀ d ∈ elems, ∀ n ∈ DataW.weights Try.prog e d.1, n ≤ reachBytes := fun d hd n hn => hr n (by
      rw [hx]
      simp only [DataW.weights, hu]
      exact List.mem_cons_of_mem _ (List.mem_append_left _ (wall_mem (List.mem_map_of_mem hd) n hn)))
    obtain ⟨B, o, spot⟩ := ad
    obtain ⟨G, hG⟩ := choose_lt (α := α) (n := len) (p := fun i g => (i = 0 → spot = none) ∧ (spot = none → W.rangeAt B (o + i * k) (cs g)) ∧ P g) (fun i hi => by
      have h3 := hall i hi
      rw [List.getElem?_eq_getElem (by omega), hc] at h3
      cases hcs : W.cells? 0 ((⟨B, o, spot⟩ : Addr).add (i * k)) k with
      | none => rw [hcs] at h3; cases h3
      | some cs' =>
        rw [hcs] at h3
        have h4 : DataW.trod enc Try.prog W 0 (fun _ => true) true n e cs' = some (elems[i]'(by omega)) := h3
        obtain ⟨_, hcl, hcc⟩ := World.cells?_some hcs
        obtain ⟨y, rfl, hP⟩ := one n cs' _ h4 (hwe _ (List.getElem_mem _))
        have e0 : (cs y)[0]? = some ((cs y)[0]'(by rw [hlen]; exact hk)) := List.getElem?_eq_getElem _
        have hs0 := World.cell?_spot ((hcc 0 (by omega)).trans e0)
        refine ⟨y, fun h0 => ?_, fun hsp => ?_, hP⟩
        · subst h0
          rw [Nat.zero_mul] at hs0
          exact hs0
        subst hsp
        intro j u hj
        have hjl : j < k := by have := (List.getElem?_eq_some_iff.1 hj).1; rwa [hlen] at this
        have := hcc j hjl
        rw [Addr.add_mid, Addr.add_mid, hj] at this
        exact this)
    refine ⟨_, len, cap, (List.range len).map G, rfl, by simp, ?_, ?_, hle⟩
    · intro y hy
      obtain ⟨i, hi, rfl⟩ := List.mem_map.1 hy
      exact (hG i (List.mem_range.1 hi)).2.2
    · by_cases h0 : len = 0
      · exact .inl h0
      · obtain rfl := (hG 0 (by omega)).1 rfl
        refine .inr ⟨B, o, rfl, fun i y hy => ?_⟩
        have hi : i < len := by
          have := (List.getElem?_eq_some_iff.1 hy).1
          simpa using this
        have hyG : y = G i := by
          rw [List.getElem?_map, List.getElem?_range hi] at hy
          simpa using hy.symm
        subst hyG
        exact (hG i hi).2.1 rfl
instance : Inhabited OpR := ⟨⟨0, 0, 0, 0, 0⟩⟩
theorem cellsO : Try.prog.cellsOf 34 = 5 := by kernel_rfl
theorem bytesO : Try.prog.bytesOf 34 = 32 := by kernel_rfl
theorem cellsI : Try.prog.cellsOf 3 = 1 := by kernel_rfl
theorem cellsY : Try.prog.cellsOf 5 = 1 := by kernel_rfl
theorem cellsU : Try.prog.cellsOf 28 = 1 := by kernel_rfl
theorem op_cells {H : Type} {enc : TypeId × Value → H} {W : World} (fuel : Nat) (cs : List Value) (x : DataW H × List MemPlace)
    (h : DataW.trod enc Try.prog W 0 (fun _ => true) true fuel 34 cs = some x) (hw : ∀ k ∈ DataW.weights Try.prog 34 x.1, k ≤ reachBytes) : ∃ y : OpR, cs = y.cs ∧ y.fit := by
  obtain ⟨xs, m, rfl, rfl, hl, hlen, hf⟩ := DataW.trod_struct Try.underlying34 h
  rw [cellsO] at hl
  match xs, hlen, cs, hl with
  | [y0, y1, y2, y3, y4], _, [v0, v1, v2, v3, v4], _ =>
    have g0 := hf 0 _ rfl
    have g1 := hf 1 _ rfl
    have g2 := hf 2 _ rfl
    have g3 := hf 3 _ rfl
    have g4 := hf 4 _ rfl
    simp [cellsI, cellsY, cellsU] at g0 g1 g2 g3 g4
    obtain ⟨z0, hv0, _, hz0⟩ := DataW.trod_int Try.underlying3 g0
    obtain ⟨z1, hv1, _, hz1⟩ := DataW.trod_int Try.underlying3 g1
    obtain ⟨z2, hv2, _, hz2⟩ := DataW.trod_int Try.underlying3 g2
    obtain ⟨z3, hv3, _, hz3⟩ := DataW.trod_int Try.underlying5 g3
    obtain ⟨z4, hv4, _, hz4⟩ := DataW.trod_int Try.underlying28 g4
    have q3 := u8_bounds hz3
    have q4 := u32_bounds hz4
    obtain ⟨z3, rfl⟩ := Int.eq_ofNat_of_zero_le q3.1
    obtain ⟨z4, rfl⟩ := Int.eq_ofNat_of_zero_le q4.1
    have p0 := bounds_i64 hz0
    have p1 := bounds_i64 hz1
    have p2 := bounds_i64 hz2
    simp at hv0 hv1 hv2 hv3 hv4
    subst hv0 hv1 hv2 hv3 hv4
    exact ⟨⟨z0, z1, z2, z3, z4⟩, rfl, by unfold OpR.fit I64; refine ⟨?_, ?_, ?_, ?_, ?_⟩ <;> dsimp only <;> omega⟩
theorem ops_in {H : Type} {enc : TypeId × Value → H} {W : World} {v : Value} {fuel : Nat} {x : DataW H × List MemPlace}
    (h : DataW.trod enc Try.prog W 0 (fun _ => true) true fuel 22 [v] = some x) (hr : ∀ n ∈ DataW.weights Try.prog 22 x.1, n ≤ reachBytes) :
    ∃ a n c os, v = .slice a n c ∧ OIn W a n os ∧ n ≤ 140737488351232 := by
  obtain ⟨a, n, c, ys, h1, h2, h3, h4, h5⟩ := list_in 22 34 Try.underlying22 5 32 cellsO bytesO (by omega) (by omega) OpR.cs OpR.fit (fun _ => rfl) op_cells h hr
  exact ⟨a, n, c, ys, h1, ⟨h2, h3, h4⟩, h5⟩
theorem OIn.below {w w' : World} {P : Option Addr} {np : Nat} {os : List OpR} (h : OIn w P np os) (hb : Below w.heap.size w w') : OIn w' P np os := by
  obtain ⟨h1, h2, h3⟩ := h
  refine ⟨h1, h2, ?_⟩
  rcases h3 with h3 | ⟨b, off, rfl, h3⟩
  · exact .inl h3
  · exact .inr ⟨b, off, rfl, fun i x hx j u hu => by
      have q := h3 i x hx j u hu
      exact (hb.cell (World.block_lt_of_cell? w _ q)).trans q⟩
end Go.Proofs.Ytcjhjengggfpeaa
