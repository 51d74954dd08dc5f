/- Scripts, regions and worlds that came in. No condition. -/
import Derived.Test.YtelfhpmbnficfaaFm
import Derived.Test.YtelfhpmbnficfaaDm
import Derived.Deep.Slices
import Derived.Deep.Strs
namespace Go.Proofs.Ytelfhpmbnficfaa
open Go.Deep Go.ChangeShapes Go.WideShapes Go.ChangeAt Go.RowKit
set_option linter.unusedVariables false
set_option maxRecDepth 100000
set_option linter.unusedSimpArgs false
/-- a step of a script -/
structure OpR where
  kd : Int
  r : Reg
  sec : Bool
  ac : Int
  p : Nat
  s : Nat
  B : Option Addr
  n : Nat
  cb : Nat
  b : List Nat
def OpR.cs (x : OpR) : List Value := [.int .i64 x.kd, .int .u64 (x.r.b : Nat), .int .u64 (x.r.n : Nat), .bool x.r.rd, .bool x.r.wr, .bool x.r.ex, .bool x.r.sc, .bool x.sec, .int .i64 x.ac, .int .u64 (x.p : Nat), .int .u64 (x.s : Nat), .slice x.B x.n x.cb]
structure OpR.fit (x : OpR) (w : World) : Prop where
  kd : I64 x.kd
  r : RFit x.r
  ac : I64 x.ac
  p : U64 x.p
  s : U64 x.s
  b : BIn w x.B x.n x.cb x.b
/-- the steps that came in -/
def OIn (w : World) (P : Option Addr) (np : Nat) (os : List OpR) : Prop :=
  os.length = np ∧ (∀ x ∈ os, x.fit w) ∧ (np = 0 ∨ ∃ b off, P = some ⟨b, off, none⟩ ∧ ∀ i x, os[i]? = some x → w.rangeAt b (off + i * 12) x.cs)
theorem wall_mem {H : Type} {P : Program} {e : TypeId} : ∀ {l : List (DataW H)} {d : DataW H}, d ∈ l → ∀ n ∈ d.weights P e, n ∈ DataW.weightsAll P e l
  | x :: r, d, hd, n, hn => by
    simp only [DataW.weightsAll, List.mem_append]
    rcases List.mem_cons.1 hd with rfl | hd
    · exact .inl hn
    · exact .inr (wall_mem hd n hn)
/-- a list whose members each read -/
theorem list_in {H : Type} {enc : TypeId × Value → H} {W : World} {α : Type} [Inhabited α] (s e : TypeId) (hu : Try.prog.underlying s = some (.slice e)) (k by' : Nat) (hc : Try.prog.cellsOf e = k) (hb : Try.prog.bytesOf e = by') (hb1 : 1 ≤ by') (hk : 0 < k) (cs : α → List Value) (P : α → Prop) (hlen : ∀ x, (cs x).length = k)
    (one : ∀ (fuel : Nat) (v : List Value) (x : DataW H × List MemPlace), DataW.trod enc Try.prog W 0 (fun _ => true) true fuel e v = some x → (∀ n ∈ DataW.weights Try.prog e x.1, n ≤ reachBytes) → ∃ y, v = cs y ∧ P y)
    {v : Value} {fuel : Nat} {x : DataW H × List MemPlace} (h : DataW.trod enc Try.prog W 0 (fun _ => true) true fuel s [v] = some x) (hr : ∀ n ∈ DataW.weights Try.prog s x.1, n ≤ reachBytes) :
    ∃ (a : Option Addr) (n c : Nat) (ys : List α), v = .slice a n c ∧ ys.length = n ∧ (∀ y ∈ ys, P y) ∧ (n = 0 ∨ ∃ b off, a = some ⟨b, off, none⟩ ∧ ∀ i y, ys[i]? = some y → W.rangeAt b (off + i * k) (cs y)) ∧ n ≤ 140737488351232 := by
  rcases DataW.trod_slice hu h with ⟨h2, _⟩ | ⟨ad, len, cap, elems, rest, n, hm, h2, hx, _, hlc, hcm, hel, hall, _, _⟩
  · simp at h2
    subst h2
    exact ⟨none, 0, 0, [], rfl, rfl, by simp, .inl rfl, by omega⟩
  · simp at h2
    subst h2
    have hle : len ≤ 140737488351232 := by
      have := hr ((elems.length + rest.length) * by') (by
        rw [hx]
        simp only [DataW.weights, hu, hb, List.length_map]
        exact List.mem_cons_self ..)
      simp only [reachBytes] at this
      have h3 : elems.length + rest.length ≤ (elems.length + rest.length) * by' := Nat.le_mul_of_pos_right _ hb1
      omega
    have hwe : ∀ d ∈ elems, ∀ n ∈ DataW.weights Try.prog e d.1, n ≤ reachBytes := fun d hd n hn => hr n (by
      rw [hx]
      simp only [DataW.weights, hu]
      exact List.mem_cons_of_mem _ (List.mem_append_left _ (wall_mem (List.mem_map_of_mem hd) n hn)))
    obtain ⟨B, o, spot⟩ := ad
    obtain ⟨G, hG⟩ := choose_lt (α := α) (n := len) (p := fun i g => (i = 0 → spot = none) ∧ (spot = none → W.rangeAt B (o + i * k) (cs g)) ∧ P g) (fun i hi => by
      have h3 := hall i hi
      rw [List.getElem?_eq_getElem (by omega), hc] at h3
      cases hcs : W.cells? 0 ((⟨B, o, spot⟩ : Addr).add (i * k)) k with
      | none => rw [hcs] at h3; cases h3
      | some cs' =>
        rw [hcs] at h3
        have h4 : DataW.trod enc Try.prog W 0 (fun _ => true) true n e cs' = some (elems[i]'(by omega)) := h3
        obtain ⟨_, hcl, hcc⟩ := World.cells?_some hcs
        obtain ⟨y, rfl, hP⟩ := one n cs' _ h4 (hwe _ (List.getElem_mem _))
        have e0 : (cs y)[0]? = some ((cs y)[0]'(by rw [hlen]; exact hk)) := List.getElem?_eq_getElem _
        have hs0 := World.cell?_spot ((hcc 0 (by omega)).trans e0)
        refine ⟨y, fun h0 => ?_, fun hsp => ?_, hP⟩
        · subst h0
          rw [Nat.zero_mul] at hs0
          exact hs0
        subst hsp
        intro j u hj
        have hjl : j < k := by have := (List.getElem?_eq_some_iff.1 hj).1; rwa [hlen] at this
        have := hcc j hjl
        rw [Addr.add_mid, Addr.add_mid, hj] at this
        exact this)
    refine ⟨_, len, cap, (List.range len).map G, rfl, by simp, ?_, ?_, hle⟩
    · intro y hy
      obtain ⟨i, hi, rfl⟩ := List.mem_map.1 hy
      exact (hG i (List.mem_range.1 hi)).2.2
    · by_cases h0 : len = 0
      · exact .inl h0
      · obtain rfl := (hG 0 (by omega)).1 rfl
        refine .inr ⟨B, o, rfl, fun i y hy => ?_⟩
        have hi : i < len := by
          have := (List.getElem?_eq_some_iff.1 hy).1
          simpa using this
        have hyG : y = G i := by
          rw [List.getElem?_map, List.getElem?_range hi] at hy
          simpa using hy.symm
        subst hyG
        exact (hG i hi).2.1 rfl
instance : Inhabited OpR := ⟨⟨0, ⟨0, 0, false, false, false, false⟩, false, 0, 0, 0, none, 0, 0, []⟩⟩
theorem cellsO : Try.prog.cellsOf 38 = 12 := by kernel_rfl
theorem bytesO : Try.prog.bytesOf 38 = 88 := by kernel_rfl
theorem cellsR : Try.prog.cellsOf 34 = 6 := by kernel_rfl
theorem bytesR : Try.prog.bytesOf 34 = 24 := by kernel_rfl
theorem cellsI : Try.prog.cellsOf 3 = 1 := by kernel_rfl
theorem cellsA : Try.prog.cellsOf 35 = 1 := by kernel_rfl
theorem cellsU : Try.prog.cellsOf 32 = 1 := by kernel_rfl
theorem cellsB : Try.prog.cellsOf 4 = 1 := by kernel_rfl
theorem cellsL : Try.prog.cellsOf 36 = 1 := by kernel_rfl
theorem cellsRL : Try.prog.cellsOf 27 = 1 := by kernel_rfl
theorem cellsW : Try.prog.cellsOf 52 = 4 := by kernel_rfl
theorem u64_bounds {n : Int} (h : (Lit.int .u64 n).wf = true) : 0 ≤ n ∧ n < 18446744073709551616 := by
  simp [Lit.wf, IntKind.min, IntKind.max, IntKind.signed, IntKind.bits] at h
  omega
theorem reg_cells {H : Type} {enc : TypeId × Value → H} {W : World} (fuel : Nat) (cs : List Value) (x : DataW H × List MemPlace)
    (h : DataW.trod enc Try.prog W 0 (fun _ => true) true fuel 34 cs = some x) (hw : ∀ k ∈ DataW.weights Try.prog 34 x.1, k ≤ reachBytes) : ∃ y : Reg, cs = regD y ∧ RFit y := by
  obtain ⟨xs, m, rfl, rfl, hl, hlen, hf⟩ := DataW.trod_struct Try.underlying34 h
  rw [cellsR] at hl
  match xs, hlen, cs, hl with
  | [y0, y1, y2, y3, y4, y5], _, [v0, v1, v2, v3, v4, v5], _ =>
    have g0 := hf 0 _ rfl
    have g1 := hf 1 _ rfl
    have g2 := hf 2 _ rfl
    have g3 := hf 3 _ rfl
    have g4 := hf 4 _ rfl
    have g5 := hf 5 _ rfl
    simp [cellsU, cellsB] at g0 g1 g2 g3 g4 g5
    obtain ⟨z0, hv0, _, hz0⟩ := DataW.trod_int Try.underlying32 g0
    obtain ⟨z1, hv1, _, hz1⟩ := DataW.trod_int Try.underlying32 g1
    obtain ⟨b2, hv2, _⟩ := DataW.trod_bool Try.underlying4 g2
    obtain ⟨b3, hv3, _⟩ := DataW.trod_bool Try.underlying4 g3
    obtain ⟨b4, hv4, _⟩ := DataW.trod_bool Try.underlying4 g4
    obtain ⟨b5, hv5, _⟩ := DataW.trod_bool Try.underlying4 g5
    have q0 := u64_bounds hz0
    have q1 := u64_bounds hz1
    obtain ⟨z0, rfl⟩ := Int.eq_ofNat_of_zero_le q0.1
    obtain ⟨z1, rfl⟩ := Int.eq_ofNat_of_zero_le q1.1
    simp at hv0 hv1 hv2 hv3 hv4 hv5
    subst hv0 hv1 hv2 hv3 hv4 hv5
    exact ⟨⟨z0, z1, b2, b3, b4, b5⟩, rfl, by show z0 < 18446744073709551616 ∧ z1 < 18446744073709551616; omega⟩
theorem op_cells {H : Type} {enc : TypeId × Value → H} {W : World} (fuel : Nat) (cs : List Value) (x : DataW H × List MemPlace)
    (h : DataW.trod enc Try.prog W 0 (fun _ => true) true fuel 38 cs = some x) (hw : ∀ k ∈ DataW.weights Try.prog 38 x.1, k ≤ reachBytes) : ∃ y : OpR, cs = y.cs ∧ y.fit W := by
  obtain ⟨xs, m, rfl, rfl, hl, hlen, hf⟩ := DataW.trod_struct Try.underlying38 h
  rw [cellsO] at hl
  match xs, hlen, cs, hl with
  | [y0, y1, y2, y3, y4, y5, y6], _, [v0, v1, v2, v3, v4, v5, v6, v7, v8, v9, v10, v11], _ =>
    have g0 := hf 0 _ rfl
    have g1 := hf 1 _ rfl
    have g2 := hf 2 _ rfl
    have g3 := hf 3 _ rfl
    have g4 := hf 4 _ rfl
    have g5 := hf 5 _ rfl
    have g6 := hf 6 _ rfl
    simp [cellsI, cellsB, cellsU, cellsL, cellsR, cellsA] at g0 g1 g2 g3 g4 g5 g6
    have hw1 : ∀ k ∈ DataW.weights Try.prog 34 y1.1, k ≤ reachBytes := fun k hk => hw k (by
      simp only [DataW.weights, Try.underlying38]
      exact DataW.weights_mem_each (j := 1) rfl rfl k hk)
    have hw6 : ∀ k ∈ DataW.weights Try.prog 36 y6.1, k ≤ reachBytes := fun k hk => hw k (by
      simp only [DataW.weights, Try.underlying38]
      exact DataW.weights_mem_each (j := 6) rfl rfl k hk)
    obtain ⟨z0, hv0, _, hz0⟩ := DataW.trod_int Try.underlying3 g0
    obtain ⟨y, hy, hyf⟩ := reg_cells _ _ _ g1 hw1
    obtain ⟨b2, hv2, _⟩ := DataW.trod_bool Try.underlying4 g2
    obtain ⟨z3, hv3, _, hz3⟩ := DataW.trod_int Try.underlying35 g3
    obtain ⟨z4, hv4, _, hz4⟩ := DataW.trod_int Try.underlying32 g4
    obtain ⟨z5, hv5, _, hz5⟩ := DataW.trod_int Try.underlying32 g5
    obtain ⟨a, n, c, l, hv6, hl2, _⟩ := bin_in g6 hw6
    have q4 := u64_bounds hz4
    have q5 := u64_bounds hz5
    obtain ⟨z4, rfl⟩ := Int.eq_ofNat_of_zero_le q4.1
    obtain ⟨z5, rfl⟩ := Int.eq_ofNat_of_zero_le q5.1
    simp [regD] at hv0 hy hv2 hv3 hv4 hv5
    obtain ⟨rfl, rfl, rfl, rfl, rfl, rfl⟩ := hy
    subst hv0 hv2 hv3 hv4 hv5 hv6
    exact ⟨⟨z0, y, b2, z3, z4, z5, a, n, c, l⟩, rfl, (show I64 z0 from by have := bounds_i64 hz0; unfold I64; omega), hyf, (show I64 z3 from by have := bounds_i64 hz3; unfold I64; omega), by show z4 < 18446744073709551616; omega, by show z5 < 18446744073709551616; omega, hl2⟩
theorem ops_in {H : Type} {enc : TypeId × Value → H} {W : World} {v : Value} {fuel : Nat} {x : DataW H × List MemPlace}
    (h : DataW.trod enc Try.prog W 0 (fun _ => true) true fuel 22 [v] = some x) (hr : ∀ n ∈ DataW.weights Try.prog 22 x.1, n ≤ reachBytes) :
    ∃ a n c os, v = .slice a n c ∧ OIn W a n os ∧ n ≤ 140737488351232 := by
  obtain ⟨a, n, c, ys, h1, h2, h3, h4, h5⟩ := list_in 22 38 Try.underlying22 12 88 cellsO bytesO (by omega) (by omega) OpR.cs (fun x => OpR.fit x W) (fun _ => rfl) op_cells h hr
  exact ⟨a, n, c, ys, h1, ⟨h2, h3, h4⟩, h5⟩
theorem OIn.below {w w' : World} {P : Option Addr} {np : Nat} {os : List OpR} (h : OIn w P np os) (hb : Below w.heap.size w w') : OIn w' P np os := by
  obtain ⟨h1, h2, h3⟩ := h
  refine ⟨h1, fun x hx => ⟨(h2 x hx).kd, (h2 x hx).r, (h2 x hx).ac, (h2 x hx).p, (h2 x hx).s, (h2 x hx).b.below hb⟩, ?_⟩
  rcases h3 with h3 | ⟨b, off, rfl, h3⟩
  · exact .inl h3
  · exact .inr ⟨b, off, rfl, fun i x hx j u hu => by
      have q := h3 i x hx j u hu
      exact (hb.cell (World.block_lt_of_cell? w _ q)).trans q⟩
/-- a region that came in -/
theorem reg_in {H : Type} {enc : TypeId × Value → H} {W : World} {base : Nat} {v : Value} {d : DataW H} {p : List MemPlace} (hv : Value.okWide Try.prog W .any base 34 v)
    (h : DataW.Trod enc Try.prog W 0 (fun _ => true) true 34 v d p) (hw : ∀ k ∈ DataW.weights Try.prog 34 d, k ≤ reachBytes) :
    ∃ y : Reg, v = .agg (regD y).toArray ∧ RFit y := by
  have hv' : ∃ cs, v = .agg cs := by
    have := hv
    simp only [Value.okWide, Try.underlying34] at this
    obtain ⟨cs, h, _⟩ := this
    exact ⟨cs, h⟩
  obtain ⟨cs, rfl⟩ := hv'
  obtain ⟨fuel, hf⟩ := h
  obtain ⟨y, hcs, h1⟩ := reg_cells fuel _ _ hf hw
  refine ⟨y, ?_, h1⟩
  have : cs.toList = regD y := hcs
  exact congrArg Value.agg (by rw [← Array.toArray_toList (xs := cs), this])
/-- the regions that came in -/
def LRIn (w : World) (P : Option Addr) (np : Nat) (t : List Reg) : Prop :=
  t.length = np ∧ (∀ x ∈ t, RFit x) ∧ (np = 0 ∨ ∃ b off, P = some ⟨b, off, none⟩ ∧ ∀ i x, t[i]? = some x → w.rangeAt b (off + i * 6) (regD x))
theorem regs_in {H : Type} {enc : TypeId × Value → H} {W : World} {v : Value} {fuel : Nat} {x : DataW H × List MemPlace}
    (h : DataW.trod enc Try.prog W 0 (fun _ => true) true fuel 27 [v] = some x) (hr : ∀ n ∈ DataW.weights Try.prog 27 x.1, n ≤ reachBytes) :
    ∃ a n c os, v = .slice a n c ∧ LRIn W a n os ∧ n ≤ 140737488351232 := by
  obtain ⟨a, n, c, ys, h1, h2, h3, h4, h5⟩ := list_in 27 34 Try.underlying27 6 24 cellsR bytesR (by omega) (by omega) regD RFit (fun _ => rfl) reg_cells h hr
  exact ⟨a, n, c, ys, h1, ⟨h2, h3, h4⟩, h5⟩
/-- a world that came in -/
theorem worlds_in {H : Type} {enc : TypeId × Value → H} {W : World} {base : Nat} {v : Value} {d : DataW H} {p : List MemPlace} (hv : Value.okWide Try.prog W .any base 52 v)
    (h : DataW.Trod enc Try.prog W 0 (fun _ => true) true 52 v d p) (hw : ∀ k ∈ DataW.weights Try.prog 52 d, k ≤ reachBytes) :
    ∃ (TA : Option Addr) (tn tc : Nat) (t : List Reg) (FA : Option Addr) (fn fc : Nat) (f : List Nat) (p : Nat) (BA : Option Addr) (bn bc : Nat) (b : List Nat), v = .agg #[.slice TA tn tc, .slice FA fn fc, .int .u64 (p : Nat), .slice BA bn bc] ∧ LRIn W TA tn t ∧ tn ≤ 140737488351232 ∧ BIn W FA fn fc f ∧ U64 p ∧ BIn W BA bn bc b := by
  have hv' : ∃ cs, v = .agg cs := by
    have := hv
    simp only [Value.okWide, Try.underlying52] at this
    obtain ⟨cs, h, _⟩ := this
    exact ⟨cs, h⟩
  obtain ⟨cs, rfl⟩ := hv'
  obtain ⟨fuel, hf0⟩ := h
  obtain ⟨xs, m, rfl, hd, hl, hlen, hf⟩ := DataW.trod_struct Try.underlying52 hf0
  rw [cellsW] at hl
  have hcs : ∃ L : List Value, cs = L.toArray := ⟨cs.toList, by simp⟩
  obtain ⟨L, rfl⟩ := hcs
  simp only [Value.cells] at hl hf
  simp only [Prod.mk.injEq] at hd
  obtain ⟨rfl, _⟩ := hd
  match xs, hlen, L, hl with
  | [y0, y1, y2, y3], _, [v0, v1, v2, v3], _ =>
    have g0 := hf 0 _ rfl
    have g1 := hf 1 _ rfl
    have g2 := hf 2 _ rfl
    have g3 := hf 3 _ rfl
    simp [cellsRL, cellsL, cellsU] at g0 g1 g2 g3
    have hw0 : ∀ k ∈ DataW.weights Try.prog 27 y0.1, k ≤ reachBytes := fun k hk => hw k (by
      simp only [DataW.weights, Try.underlying52]
      exact DataW.weights_mem_each (j := 0) rfl rfl k hk)
    have hw1 : ∀ k ∈ DataW.weights Try.prog 36 y1.1, k ≤ reachBytes := fun k hk => hw k (by
      simp only [DataW.weights, Try.underlying52]
      exact DataW.weights_mem_each (j := 1) rfl rfl k hk)
    have hw3 : ∀ k ∈ DataW.weights Try.prog 36 y3.1, k ≤ reachBytes := fun k hk => hw k (by
      simp only [DataW.weights, Try.underlying52]
      exact DataW.weights_mem_each (j := 3) rfl rfl k hk)
    obtain ⟨TA, tn, tc, t, rfl, ht, htn⟩ := regs_in g0 hw0
    obtain ⟨FA, fn, fc, f, rfl, hf2, _⟩ := bin_in g1 hw1
    obtain ⟨z2, hv2, _, hz2⟩ := DataW.trod_int Try.underlying32 g2
    obtain ⟨BA, bn, bc, b, rfl, hb2, _⟩ := bin_in g3 hw3
    have q2 := u64_bounds hz2
    obtain ⟨z2, rfl⟩ := Int.eq_ofNat_of_zero_le q2.1
    simp at hv2
    subst hv2
    exact ⟨TA, tn, tc, t, FA, fn, fc, f, z2, BA, bn, bc, b, rfl, ht, htn, hf2, by show z2 < 18446744073709551616; omega, hb2⟩
end Go.Proofs.Ytelfhpmbnficfaa
