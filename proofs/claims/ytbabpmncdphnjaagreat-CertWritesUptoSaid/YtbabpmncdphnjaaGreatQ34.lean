/- Parts of proofs of statements, each text behind those that it stands on. No condition of its own. -/
import Derived.Test.YtbabpmncdphnjaaGreatQ17
import Derived.Test.YtbabpmncdphnjaaGreatQ33
namespace Go.Proofs.YtbabpmncdphnjaaGreat
open Go.ChangeShapes Go.WideShapes Go.ChangeAt Go.RowKit
set_option linter.unusedVariables false
set_option maxRecDepth 100000
set_option linter.unusedSimpArgs false
theorem bytes65 : Tryz.prog.bytesOf 67 = 40 := by kernel_rfl
theorem cells65 : Tryz.prog.cellsOf 67 = 3 := by kernel_rfl
theorem cells55 : Tryz.prog.cellsOf 26 = 6 := by kernel_rfl
theorem cells57 : Tryz.prog.cellsOf 37 = 9 := by kernel_rfl
theorem cellsI : Tryz.prog.cellsOf 3 = 1 := by kernel_rfl
theorem cellsB : Tryz.prog.cellsOf 4 = 1 := by kernel_rfl
theorem cellsU : Tryz.prog.cellsOf 23 = 1 := by kernel_rfl
theorem cellsS : Tryz.prog.cellsOf 9 = 1 := by kernel_rfl
theorem cellsX : Tryz.prog.cellsOf 24 = 1 := by kernel_rfl
end Go.Proofs.YtbabpmncdphnjaaGreat
namespace Go.Proofs.YtbabpmncdphnjaaGreat
open Go.ChangeShapes Go.WideShapes Go.ChangeAt Go.RowKit
set_option linter.unusedVariables false
set_option maxRecDepth 100000
set_option linter.unusedSimpArgs false
theorem bulk_mem {H : Type} {l : List (DataW H)} {d : DataW H} (h : d ∈ l) : Rows.uptoBulk d ≤ Rows.uptoBulkAll l := by
  induction l with
  | nil => cases h
  | cons x r ih =>
    simp only [Rows.uptoBulkAll]
    rcases List.mem_cons.1 h with rfl | h
    · omega
    · have := ih h; omega
theorem sl_bulk {H : Type} {enc : TypeId × Value → H} {W : World} {t e : TypeId} {fuel : Nat} {a : Option Addr} {n c : Nat} {x : DataW H × List MemPlace} (hu : Tryz.prog.underlying t = some (.slice e))
    (h : DataW.trod enc Tryz.prog W 0 (fun _ => true) true fuel t [.slice a n c] = some x) : n ≤ Rows.uptoBulk x.1 := by
  rcases DataW.trod_slice hu h with ⟨h2, _⟩ | ⟨ad, len, cap, elems, rest, m, hm, h2, hx, _, hlc, hcm, hel, hall, _, _⟩
  · simp at h2
    omega
  · simp at h2
    rw [hx]
    simp only [Rows.uptoBulk]
    have h1 := bulk_length (elems.map (·.1))
    rw [List.length_map] at h1
    omega
def ExtAtU (N : Nat) (w : World) (B o : Nat) : Prop := ∃ x : XV, x.2.2.length ≤ N ∧ (-9223372036854775808 ≤ x.1 ∧ x.1 ≤ 9223372036854775807) ∧ ∃ a c, w.rangeAt B o [.int .i64 x.1, .bool x.2.1, .slice a x.2.2.length c] ∧ BIn w a x.2.2.length c x.2.2
theorem xrow_ofU {N : Nat} {w : World} {B : Nat} : ∀ (n o : Nat), (∀ i, i < n → ExtAtU N w B (o + i * 3)) → ∃ xs : List XV, xs.length = n ∧ XRow w xs B o ∧ ∀ y ∈ xs, y.2.2.length ≤ N
  | 0, _, _ => ⟨[], rfl, trivial, fun _ h => nomatch h⟩
  | n + 1, o, h => by
    obtain ⟨x, hN, hb, a, c, hr, hi⟩ := h 0 (by omega)
    obtain ⟨xs, hl, hR, hM⟩ := xrow_ofU n (o + 3) (fun i hi => by
      have := h (i + 1) (by omega)
      rwa [show o + (i + 1) * 3 = o + 3 + i * 3 by omega] at this)
    rw [Nat.zero_mul, Nat.add_zero] at hr
    exact ⟨x :: xs, by simp [hl], ⟨hb, ⟨a, c, hr, hi⟩, hR⟩, fun y hy => by rcases List.mem_cons.1 hy with rfl | hy; exact hN; exact hM y hy⟩
theorem cells_extU {H : Type} {enc : TypeId × Value → H} {W : World} (fuel : Nat) (cs : List Value) (x : DataW H × List MemPlace)
    (h : DataW.trod enc Tryz.prog W 0 (fun _ => true) true fuel 67 cs = some x) (hw : ∀ k ∈ DataW.weights Tryz.prog 67 x.1, k ≤ reachBytes) :
    ∃ (y : XV) (a : Option Addr) (c : Nat), cs = [.int .i64 y.1, .bool y.2.1, .slice a y.2.2.length c] ∧ (-9223372036854775808 ≤ y.1 ∧ y.1 ≤ 9223372036854775807) ∧ BIn W a y.2.2.length c y.2.2 ∧ y.2.2.length ≤ Rows.uptoBulk x.1 := by
  obtain ⟨xs, m, rfl, rfl, hl, hlen, hf⟩ := DataW.trod_struct Tryz.underlying67 h
  rw [cells65] at hl
  match xs, hlen, cs, hl with
  | [y0, y1, y2], _, [v0, v1, v2], _ =>
    have g0 := hf 0 _ rfl
    have g1 := hf 1 _ rfl
    have g2 := hf 2 _ rfl
    simp [cellsI, cellsB, cells22] at g0 g1 g2
    have hw2 : ∀ k ∈ DataW.weights Tryz.prog 22 y2.1, k ≤ reachBytes := fun k hk => hw k (by
      simp only [DataW.weights, Tryz.underlying67]
      exact DataW.weights_mem_each (j := 2) rfl rfl k hk)
    obtain ⟨z, hv, _, hz⟩ := DataW.trod_int Tryz.underlying3 g0
    simp at hv
    subst hv
    obtain ⟨b, hb, _⟩ := DataW.trod_bool Tryz.underlying4 g1
    simp at hb
    subst hb
    obtain ⟨a, n, c, l, rfl, hl2, _⟩ := bin_in g2 hw2
    have hbl := sl_bulk Tryz.underlying22 g2
    have hll : l.length = n := hl2.1.1
    subst hll
    exact ⟨(z, b, l), a, c, rfl, bounds_i64 hz, hl2, by simp only [Rows.uptoBulk, Rows.uptoBulkAll, List.map]; omega⟩
theorem exts_inU {H : Type} {enc : TypeId × Value → H} {W : World} {v : Value} {fuel : Nat} {x : DataW H × List MemPlace}
    (h : DataW.trod enc Tryz.prog W 0 (fun _ => true) true fuel 24 [v] = some x) (hr : ∀ k ∈ DataW.weights Tryz.prog 24 x.1, k ≤ reachBytes) :
    ∃ a n c xs, v = .slice a n c ∧ XIn W a n c xs ∧ n ≤ Rows.uptoBulk x.1 ∧ ∀ y ∈ xs, y.2.2.length ≤ Rows.uptoBulk x.1 := by
  rcases DataW.trod_slice Tryz.underlying24 h with ⟨h2, _⟩ | ⟨ad, len, cap, elems, rest, n, hm, h2, hx, _, hlc, hcm, hel, hall, _, _⟩
  · simp at h2
    subst h2
    exact ⟨none, 0, 0, [], rfl, ⟨rfl, Nat.le_refl _, by omega, fun _ => rfl, .inl rfl⟩, Nat.zero_le _, fun _ h => nomatch h⟩
  · simp at h2
    subst h2
    have hlen : len ≤ 140737488355328 := by
      have := hr ((elems.length + rest.length) * 40) (by
        rw [hx]
        simp only [DataW.weights, Tryz.underlying24, bytes65, List.length_map]
        exact List.mem_cons_self ..)
      simp only [reachBytes] at this
      omega
    have hwe : ∀ d ∈ elems, ∀ k ∈ DataW.weights Tryz.prog 67 d.1, k ≤ reachBytes := fun d hd k hk => hr k (by
      rw [hx]
      simp only [DataW.weights, Tryz.underlying24]
      exact List.mem_cons_of_mem _ (List.mem_append_left _ (wall_mem (List.mem_map_of_mem hd) k hk)))
    have hbk : len ≤ Rows.uptoBulk x.1 := by
      rw [hx]
      simp only [Rows.uptoBulk]
      have h1 := bulk_length (elems.map (·.1))
      rw [List.length_map] at h1
      omega
    have hbe : ∀ d ∈ elems, Rows.uptoBulk d.1 ≤ Rows.uptoBulk x.1 := fun d hd => by
      rw [hx]
      simp only [Rows.uptoBulk]
      have h1 := bulk_mem (List.mem_map_of_mem (f := (·.1)) hd)
      omega
    obtain ⟨B, o, spot⟩ := ad
    have each : ∀ i, i < len → (i = 0 → spot = none) ∧ (spot = none → ExtAtU (Rows.uptoBulk x.1) W B (o + i * 3)) := by
      intro i hi
      have h3 := hall i hi
      rw [List.getElem?_eq_getElem (by omega), cells65] at h3
      cases hcs : W.cells? 0 ((⟨B, o, spot⟩ : Addr).add (i * 3)) 3 with
      | none => rw [hcs] at h3; cases h3
      | some cs' =>
        rw [hcs] at h3
        have h4 : DataW.trod enc Tryz.prog W 0 (fun _ => true) true n 67 cs' = some (elems[i]'(by omega)) := h3
        obtain ⟨_, hcl, hcc⟩ := World.cells?_some hcs
        obtain ⟨y1, a1, c1, rfl, hb1, hi1, hN1⟩ := cells_extU n cs' _ h4 (hwe _ (List.getElem_mem _))
        have hs0 := World.cell?_spot (hcc 0 (by omega))
        refine ⟨fun h0 => ?_, fun hsp => ?_⟩
        · subst h0
          rw [Nat.zero_mul] at hs0
          exact hs0
        subst hsp
        refine ⟨y1, Nat.le_trans hN1 (hbe _ (List.getElem_mem _)), hb1, a1, c1, ?_, hi1⟩
        intro j v hv
        have hj : j < 3 := (List.getElem?_eq_some_iff.1 hv).1
        have := hcc j hj
        rw [Addr.add_mid, Addr.add_mid, hv] at this
        exact this
    by_cases h0 : len = 0
    · subst h0
      exact ⟨_, 0, cap, [], rfl, ⟨rfl, hlc, by omega, (fun h => by cases h), .inl rfl⟩, Nat.zero_le _, fun _ h => nomatch h⟩
    · obtain rfl := (each 0 (by omega)).1 rfl
      obtain ⟨xs, hT, hR, hM⟩ := xrow_ofU len o (fun i hi => (each i hi).2 rfl)
      exact ⟨_, len, cap, xs, rfl, ⟨hT, hlc, hlen, (fun h => by cases h), .inr ⟨B, o, rfl, hR⟩⟩, hbk, hM⟩
theorem cells_certU {H : Type} {enc : TypeId × Value → H} {W : World} (fuel : Nat) (cs : List Value) (x : DataW H × List MemPlace)
    (h : DataW.trod enc Tryz.prog W 0 (fun _ => true) true fuel 26 cs = some x) (hw : ∀ k ∈ DataW.weights Tryz.prog 26 x.1, k ≤ reachBytes) :
    ∃ (sn : Int) (is su : ByteArray) (ka : Option Addr) (kn kc : Nat) (xa : Option Addr) (n xc : Nat) (sa : Option Addr) (sl sc : Nat) (kb : List Nat) (xs : List XV) (sb : List Nat), cs = [.int .u64 sn, .string is, .string su, .slice ka kn kc, .slice xa n xc, .slice sa sl sc] ∧
      (0 ≤ sn ∧ sn ≤ 18446744073709551615) ∧ is.size ≤ maxLen ∧ su.size ≤ maxLen ∧ BIn W ka kn kc kb ∧ XIn W xa n xc xs ∧ BIn W sa sl sc sb ∧ (is.size ≤ Rows.uptoBulk x.1 ∧ su.size ≤ Rows.uptoBulk x.1) ∧ n ≤ Rows.uptoBulk x.1 ∧ (∀ y ∈ xs, y.2.2.length ≤ Rows.uptoBulk x.1) ∧ sl ≤ Rows.uptoBulk x.1 := by
  obtain ⟨xs, m, rfl, rfl, hl, hlen, hf⟩ := DataW.trod_struct Tryz.underlying26 h
  rw [cells55] at hl
  match xs, hlen, cs, hl with
  | [y0, y1, y2, y3, y4, y5], _, [v0, v1, v2, v3, v4, v5], _ =>
    have g0 := hf 0 _ rfl
    have g1 := hf 1 _ rfl
    have g2 := hf 2 _ rfl
    have g3 := hf 3 _ rfl
    have g4 := hf 4 _ rfl
    have g5 := hf 5 _ rfl
    simp [cellsU, cellsS, cells22, cellsX] at g0 g1 g2 g3 g4 g5
    have hw3 : ∀ k ∈ DataW.weights Tryz.prog 22 y3.1, k ≤ reachBytes := fun k hk => hw k (by
      simp only [DataW.weights, Tryz.underlying26]
      exact DataW.weights_mem_each (j := 3) rfl rfl k hk)
    have hw4 : ∀ k ∈ DataW.weights Tryz.prog 24 y4.1, k ≤ reachBytes := fun k hk => hw k (by
      simp only [DataW.weights, Tryz.underlying26]
      exact DataW.weights_mem_each (j := 4) rfl rfl k hk)
    have hw5 : ∀ k ∈ DataW.weights Tryz.prog 22 y5.1, k ≤ reachBytes := fun k hk => hw k (by
      simp only [DataW.weights, Tryz.underlying26]
      exact DataW.weights_mem_each (j := 5) rfl rfl k hk)
    obtain ⟨sn, hv, _, hz⟩ := DataW.trod_int Tryz.underlying23 g0
    simp at hv
    subst hv
    obtain ⟨is, hv, hd1, h1⟩ := DataW.trod_string Tryz.underlying9 g1
    simp at hv
    subst hv
    obtain ⟨su, hv, hd2, h2⟩ := DataW.trod_string Tryz.underlying9 g2
    have hz1 : is.size ≤ Rows.uptoBulk y1.1 := by rw [hd1]; simp only [Rows.uptoBulk, Array.length_toList]; exact Nat.le_succ _
    have hz2 : su.size ≤ Rows.uptoBulk y2.1 := by rw [hd2]; simp only [Rows.uptoBulk, Array.length_toList]; exact Nat.le_succ _
    simp at hv
    subst hv
    obtain ⟨ka, kn, kc, kb, rfl, hk, _⟩ := bin_in g3 hw3
    obtain ⟨xa, n, xc, xs, rfl, hx, hxn, hxl⟩ := exts_inU g4 hw4
    obtain ⟨sa, sl, sc, sb, rfl, hs, _⟩ := bin_in g5 hw5
    have hsl := sl_bulk Tryz.underlying22 g5
    exact ⟨sn, is, su, ka, kn, kc, xa, n, xc, sa, sl, sc, kb, xs, sb, rfl, bounds_u64 hz, h1, h2, hk, hx, hs, ⟨by simp only [Rows.uptoBulk, Rows.uptoBulkAll, List.map]; omega, by simp only [Rows.uptoBulk, Rows.uptoBulkAll, List.map]; omega⟩, by simp only [Rows.uptoBulk, Rows.uptoBulkAll, List.map]; omega, fun y hy => by have := hxl y hy; simp only [Rows.uptoBulk, Rows.uptoBulkAll, List.map]; omega, by simp only [Rows.uptoBulk, Rows.uptoBulkAll, List.map]; omega⟩
theorem whole_inU {H : Type} {enc : TypeId × Value → H} {W : World} {base : Nat} {v : Value} {d : DataW H} {p : List MemPlace} (hv : Value.okWide Tryz.prog W .any base 37 v)
    (h : DataW.Trod enc Tryz.prog W 0 (fun _ => true) true 37 v d p) (hw : ∀ k ∈ DataW.weights Tryz.prog 37 d, k ≤ reachBytes) :
    ∃ (sn : Int) (is su : ByteArray) (ka : Option Addr) (kn kc : Nat) (xa : Option Addr) (n xc : Nat) (sa : Option Addr) (sl sc : Nat) (ya : Option Addr) (yn yc : Nat) (ga : Option Addr) (gn gc : Nat) (raw : Bool) (kb : List Nat) (xs : List XV) (sb yb gb : List Nat),
      v = .agg #[.int .u64 sn, .string is, .string su, .slice ka kn kc, .slice xa n xc, .slice sa sl sc, .bool raw, .slice ya yn yc, .slice ga gn gc] ∧
      (0 ≤ sn ∧ sn ≤ 18446744073709551615) ∧ is.size ≤ maxLen ∧ su.size ≤ maxLen ∧ BIn W ka kn kc kb ∧ XIn W xa n xc xs ∧ BIn W sa sl sc sb ∧ BIn W ya yn yc yb ∧ BIn W ga gn gc gb ∧ (is.size ≤ Rows.uptoBulk d ∧ su.size ≤ Rows.uptoBulk d) ∧ n ≤ Rows.uptoBulk d ∧ (∀ y ∈ xs, y.2.2.length ≤ Rows.uptoBulk d) ∧ sl ≤ Rows.uptoBulk d := by
  have hv' : ∃ cs, v = .agg cs := by
    have := hv
    simp only [Value.okWide, Tryz.underlying37] at this
    obtain ⟨cs, h, _⟩ := this
    exact ⟨cs, h⟩
  obtain ⟨cs, rfl⟩ := hv'
  obtain ⟨fuel, hf0⟩ := h
  obtain ⟨xs, m, rfl, hd, hl, hlen, hf⟩ := DataW.trod_struct Tryz.underlying37 hf0
  rw [cells57] at hl
  have hcs : ∃ L : List Value, cs = L.toArray := ⟨cs.toList, by simp⟩
  obtain ⟨L, rfl⟩ := hcs
  simp only [Value.cells] at hl hf
  simp only [Prod.mk.injEq] at hd
  obtain ⟨rfl, _⟩ := hd
  match xs, hlen, L, hl with
  | [y0, y1, y2, y3], _, [v0, v1, v2, v3, v4, v5, v6, v7, v8], _ =>
    have g0 := hf 0 _ rfl
    have g1 := hf 1 _ rfl
    have g2 := hf 2 _ rfl
    have g3 := hf 3 _ rfl
    simp [cells55, cellsB, cells22] at g0 g1 g2 g3
    have hw0 : ∀ k ∈ DataW.weights Tryz.prog 26 y0.1, k ≤ reachBytes := fun k hk => hw k (by
      simp only [DataW.weights, Tryz.underlying37]
      exact DataW.weights_mem_each (j := 0) rfl rfl k hk)
    have hw2 : ∀ k ∈ DataW.weights Tryz.prog 22 y2.1, k ≤ reachBytes := fun k hk => hw k (by
      simp only [DataW.weights, Tryz.underlying37]
      exact DataW.weights_mem_each (j := 2) rfl rfl k hk)
    have hw3 : ∀ k ∈ DataW.weights Tryz.prog 22 y3.1, k ≤ reachBytes := fun k hk => hw k (by
      simp only [DataW.weights, Tryz.underlying37]
      exact DataW.weights_mem_each (j := 3) rfl rfl k hk)
    obtain ⟨sn, is, su, ka, kn, kc, xa, n, xc, sa, sl, sc, kb, xs, sb, hcs, h0, h1, h2, h3, h4, h5, hu0, hu1, hu2, hu3⟩ := cells_certU _ _ _ g0 hw0
    simp only [List.cons.injEq, and_true] at hcs
    obtain ⟨rfl, rfl, rfl, rfl, rfl, rfl⟩ := hcs
    obtain ⟨raw, hb, _⟩ := DataW.trod_bool Tryz.underlying4 g1
    simp at hb
    subst hb
    obtain ⟨ya, yn, yc, yb, rfl, h6, _⟩ := bin_in g2 hw2
    obtain ⟨ga, gn, gc, gb, rfl, h7, _⟩ := bin_in g3 hw3
    exact ⟨sn, is, su, ka, kn, kc, xa, n, xc, sa, sl, sc, ya, yn, yc, ga, gn, gc, raw, kb, xs, sb, yb, gb, rfl, h0, h1, h2, h3, h4, h5, h6, h7, ⟨by simp only [Rows.uptoBulk, Rows.uptoBulkAll, List.map]; omega, by simp only [Rows.uptoBulk, Rows.uptoBulkAll, List.map]; omega⟩, by simp only [Rows.uptoBulk, Rows.uptoBulkAll, List.map]; omega, fun y hy => by have := hu2 y hy; simp only [Rows.uptoBulk, Rows.uptoBulkAll, List.map]; omega, by simp only [Rows.uptoBulk, Rows.uptoBulkAll, List.map]; omega⟩
end Go.Proofs.YtbabpmncdphnjaaGreat
